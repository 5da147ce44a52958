/- FactInjective: the walk of the statement's text. -/
import Derived.Test.YtlhcckjfgpcohaaGreatDoorU5
namespace Go.Proofs.YtlhcckjfgpcohaaGreatDoor
open Go.RowKit Go.MapKept
set_option maxRecDepth 100000
set_option linter.unusedSimpArgs false
set_option linter.unusedVariables false
theorem setCells_row {g : Nat} {t : TypeId} {fr : Nat × Nat} : ∀ (vs : List Value) (o : Nat) (w : World) (cs : Array Value), w.heap[g]? = some (.cells cs t fr) → ∃ cs' : Array Value, (w.setCells g o vs).heap[g]? = some (.cells cs' t fr) ∧ cs'.size = cs.size ∧ (∀ j, j < o → cs'[j]? = cs[j]?) ∧ ∀ j, j < vs.length → o + j < cs.size → cs'[o + j]? = vs[j]?
  | [], o, w, cs, h => ⟨cs, h, rfl, fun _ _ => rfl, fun j hj => by simp at hj⟩
  | v :: vs, o, w, cs, h => by
    obtain ⟨cs', h1, h2, h3, h4⟩ := setCells_row vs (o + 1) (w.setCell ⟨g, o, none⟩ v) (cs.setIfInBounds o v) (Joins.block_setCell h v)
    refine ⟨cs', h1, by simpa using h2, fun j hj => ?_, fun j hj hs => ?_⟩
    · rw [h3 j (by omega), Array.getElem?_setIfInBounds_ne (by omega)]
    · cases j with
      | zero =>
        rw [Nat.add_zero, h3 o (by omega), Array.getElem?_setIfInBounds_self_of_lt (by omega)]
        rfl
      | succ j =>
        have := h4 j (by simpa using hj) (by simp; omega)
        rw [show o + (j + 1) = o + 1 + j by omega, this]
        rfl
theorem FcAt.put {W : World} {B : Nat} {d : FE} (h : FcAt W B d) (e : FE) : FcAt (W.setCells B 0 (elF e)) B e := by
  obtain ⟨cs', h1, h2, -, h4⟩ := setCells_row (elF e) 0 W _ h
  have : cs' = (elF e).toArray := by
    apply Array.ext_getElem?
    intro j
    by_cases hj : j < 23
    · have := h4 j (by simpa [elF] using hj) (by simpa [elF] using hj)
      rw [Nat.zero_add] at this
      rw [this]; simp
    · rw [Array.getElem?_eq_none (by rw [h2]; simp [elF]; omega), Array.getElem?_eq_none (by simp [elF]; omega)]
  unfold FcAt
  rw [h1, this]
set_option maxHeartbeats 64000000 in
theorem inj5 (e d : FE) (q : Bool) (w : World) (h : FeOk w e) (k : FeOk w d) : Calls Tryz.prog 6 #[aggF e, aggF d, .bool q] w fun r w' => r = .returned (.bool true) ∧ Below w.heap.size w w' := by
  obtain ⟨V0, hV0⟩ : ∃ V0, V0 = (w.alloc (.cells #[.int .i64 e.f.n, .int .i64 e.f.tm, .int .i64 e.f.kd, .int .i64 e.f.st, .string ⟨e.f.lg.toArray⟩, .int .i64 e.f.rv, .int .i64 e.f.bs, .string ⟨e.f.ti.toArray⟩, .string ⟨e.f.au.toArray⟩, .slice e.ta e.tn e.tc, .slice e.ba e.bn e.bc, .int .i64 e.f.lb.u, .slice e.la e.ln e.lc, .int .i64 e.f.lb.ap, .int .i64 e.f.lb.d, .int .i64 e.f.ed, .int .i64 e.f.bk, .int .i64 e.f.se, .string ⟨e.f.tx.toArray⟩, .string ⟨e.f.nm.toArray⟩, .int .i64 e.f.pt, .int .i64 e.f.cl, .int .i64 e.f.un] 28)).alloc (.cells #[.int .i64 d.f.n, .int .i64 d.f.tm, .int .i64 d.f.kd, .int .i64 d.f.st, .string ⟨d.f.lg.toArray⟩, .int .i64 d.f.rv, .int .i64 d.f.bs, .string ⟨d.f.ti.toArray⟩, .string ⟨d.f.au.toArray⟩, .slice d.ta d.tn d.tc, .slice d.ba d.bn d.bc, .int .i64 d.f.lb.u, .slice d.la d.ln d.lc, .int .i64 d.f.lb.ap, .int .i64 d.f.lb.d, .int .i64 d.f.ed, .int .i64 d.f.bk, .int .i64 d.f.se, .string ⟨d.f.tx.toArray⟩, .string ⟨d.f.nm.toArray⟩, .int .i64 d.f.pt, .int .i64 d.f.cl, .int .i64 d.f.un] 28) := ⟨_, rfl⟩
  have F0 : Hid (FcAt V0 w.heap.size e) := Lib.hid (by rw [hV0]; exact (new_fact w e).over (below_alloc _ _))
  have F1 : Hid (FcAt V0 (w.heap.size + 1) d) := Lib.hid (by
    rw [hV0]
    have := new_fact (w.alloc (.cells #[.int .i64 e.f.n, .int .i64 e.f.tm, .int .i64 e.f.kd, .int .i64 e.f.st, .string ⟨e.f.lg.toArray⟩, .int .i64 e.f.rv, .int .i64 e.f.bs, .string ⟨e.f.ti.toArray⟩, .string ⟨e.f.au.toArray⟩, .slice e.ta e.tn e.tc, .slice e.ba e.bn e.bc, .int .i64 e.f.lb.u, .slice e.la e.ln e.lc, .int .i64 e.f.lb.ap, .int .i64 e.f.lb.d, .int .i64 e.f.ed, .int .i64 e.f.bk, .int .i64 e.f.se, .string ⟨e.f.tx.toArray⟩, .string ⟨e.f.nm.toArray⟩, .int .i64 e.f.pt, .int .i64 e.f.cl, .int .i64 e.f.un] 28)) d
    rwa [show (w.alloc (.cells #[.int .i64 e.f.n, .int .i64 e.f.tm, .int .i64 e.f.kd, .int .i64 e.f.st, .string ⟨e.f.lg.toArray⟩, .int .i64 e.f.rv, .int .i64 e.f.bs, .string ⟨e.f.ti.toArray⟩, .string ⟨e.f.au.toArray⟩, .slice e.ta e.tn e.tc, .slice e.ba e.bn e.bc, .int .i64 e.f.lb.u, .slice e.la e.ln e.lc, .int .i64 e.f.lb.ap, .int .i64 e.f.lb.d, .int .i64 e.f.ed, .int .i64 e.f.bk, .int .i64 e.f.se, .string ⟨e.f.tx.toArray⟩, .string ⟨e.f.nm.toArray⟩, .int .i64 e.f.pt, .int .i64 e.f.cl, .int .i64 e.f.un] 28)).heap.size = w.heap.size + 1 by simp] at this)
  have BB : Hid (Below w.heap.size w V0) := Lib.hid (by rw [hV0]; exact bel2 (below_alloc w _) (below_alloc _ _))
  have O0 : Hid (FeOk V0 e) := Lib.hid (h.over BB.out)
  have O1 : Hid (FeOk V0 d) := Lib.hid (k.over BB.out)
  have HV0 := Lib.hid hV0
  clear hV0 h k
  show Calls _ _ #[.agg #[.int .i64 e.f.n, .int .i64 e.f.tm, .int .i64 e.f.kd, .int .i64 e.f.st, .string ⟨e.f.lg.toArray⟩, .int .i64 e.f.rv, .int .i64 e.f.bs, .string ⟨e.f.ti.toArray⟩, .string ⟨e.f.au.toArray⟩, .slice e.ta e.tn e.tc, .slice e.ba e.bn e.bc, .int .i64 e.f.lb.u, .slice e.la e.ln e.lc, .int .i64 e.f.lb.ap, .int .i64 e.f.lb.d, .int .i64 e.f.ed, .int .i64 e.f.bk, .int .i64 e.f.se, .string ⟨e.f.tx.toArray⟩, .string ⟨e.f.nm.toArray⟩, .int .i64 e.f.pt, .int .i64 e.f.cl, .int .i64 e.f.un], .agg #[.int .i64 d.f.n, .int .i64 d.f.tm, .int .i64 d.f.kd, .int .i64 d.f.st, .string ⟨d.f.lg.toArray⟩, .int .i64 d.f.rv, .int .i64 d.f.bs, .string ⟨d.f.ti.toArray⟩, .string ⟨d.f.au.toArray⟩, .slice d.ta d.tn d.tc, .slice d.ba d.bn d.bc, .int .i64 d.f.lb.u, .slice d.la d.ln d.lc, .int .i64 d.f.lb.ap, .int .i64 d.f.lb.d, .int .i64 d.f.ed, .int .i64 d.f.bk, .int .i64 d.f.se, .string ⟨d.f.tx.toArray⟩, .string ⟨d.f.nm.toArray⟩, .int .i64 d.f.pt, .int .i64 d.f.cl, .int .i64 d.f.un], _] w _
  go_enter Tryz.func6, Tryz.ntmps6
  go_wp2_with fail
  rw [← HV0.out]
  refine (sane5 V0).mono ?_
  rintro r w1 ⟨rfl, b1⟩
  replace F0 := Lib.hid (F0.out.over b1)
  replace F1 := Lib.hid (F1.out.over b1)
  replace O0 := Lib.hid (O0.out.over b1)
  replace O1 := Lib.hid (O1.out.over b1)
  replace BB := Lib.hid (bel2 BB.out b1)
  clear b1 HV0
  go_wp2_with (refine wpList_load28 _ w.heap.size e ?F rfl rfl rfl ?_; (case F => exact F0.out))
  refine (kF e w1 O0.out).mono ?_
  rintro r w2 ⟨e1, rfl, -, ok1, b2⟩
  obtain ⟨V2, hV2⟩ : ∃ V2, V2 = w2.alloc (.cells #[.int .i64 e1.f.n, .int .i64 e1.f.tm, .int .i64 e1.f.kd, .int .i64 e1.f.st, .string ⟨e1.f.lg.toArray⟩, .int .i64 e1.f.rv, .int .i64 e1.f.bs, .string ⟨e1.f.ti.toArray⟩, .string ⟨e1.f.au.toArray⟩, .slice e1.ta e1.tn e1.tc, .slice e1.ba e1.bn e1.bc, .int .i64 e1.f.lb.u, .slice e1.la e1.ln e1.lc, .int .i64 e1.f.lb.ap, .int .i64 e1.f.lb.d, .int .i64 e1.f.ed, .int .i64 e1.f.bk, .int .i64 e1.f.se, .string ⟨e1.f.tx.toArray⟩, .string ⟨e1.f.nm.toArray⟩, .int .i64 e1.f.pt, .int .i64 e1.f.cl, .int .i64 e1.f.un] 28) := ⟨_, rfl⟩
  have b2' : Below w1.heap.size w1 V2 := by rw [hV2]; exact bel2 b2 (below_alloc w2 _)
  have F8 : Hid (FcAt V2 w2.heap.size e1) := Lib.hid (by rw [hV2]; exact new_fact w2 e1)
  have O8 : Hid (FeOk V2 e1) := Lib.hid (by rw [hV2]; exact ok1.over (below_alloc w2 _))
  have L8 : Hid (w2.heap.size < V2.heap.size) := Lib.hid (Array.getElem?_eq_some_iff.1 F8.out).1
  replace F1 := Lib.hid (F1.out.over b2')
  replace O1 := Lib.hid (O1.out.over b2')
  replace BB := Lib.hid (bel2 BB.out b2')
  have HV2 := Lib.hid hV2
  clear hV2 ok1 b2 b2' F0 O0
  go_wp2_with (first | (refine wpList_store28 _ _ zE e1 rfl rfl rfl rfl ?_; rw [← HV2.out]) | (refine wpList_load28 _ (w.heap.size + 1) d ?F rfl rfl rfl ?_; (case F => exact F1.out)))
  refine (kF d V2 O1.out).mono ?_
  rintro r w3 ⟨d1, rfl, -, ok3, b3⟩
  obtain ⟨V3, hV3⟩ : ∃ V3, V3 = w3.alloc (.cells #[.int .i64 d1.f.n, .int .i64 d1.f.tm, .int .i64 d1.f.kd, .int .i64 d1.f.st, .string ⟨d1.f.lg.toArray⟩, .int .i64 d1.f.rv, .int .i64 d1.f.bs, .string ⟨d1.f.ti.toArray⟩, .string ⟨d1.f.au.toArray⟩, .slice d1.ta d1.tn d1.tc, .slice d1.ba d1.bn d1.bc, .int .i64 d1.f.lb.u, .slice d1.la d1.ln d1.lc, .int .i64 d1.f.lb.ap, .int .i64 d1.f.lb.d, .int .i64 d1.f.ed, .int .i64 d1.f.bk, .int .i64 d1.f.se, .string ⟨d1.f.tx.toArray⟩, .string ⟨d1.f.nm.toArray⟩, .int .i64 d1.f.pt, .int .i64 d1.f.cl, .int .i64 d1.f.un] 28) := ⟨_, rfl⟩
  have b3' : Below V2.heap.size V2 V3 := by rw [hV3]; exact bel2 b3 (below_alloc w3 _)
  have hlt : w2.heap.size < w3.heap.size := Nat.lt_of_lt_of_le L8.out b3.size
  have F9 : Hid (FcAt V3 w3.heap.size d1) := Lib.hid (by rw [hV3]; exact new_fact w3 d1)
  have O9 : Hid (FeOk V3 d1) := Lib.hid (by rw [hV3]; exact ok3.over (below_alloc w3 _))
  have F82 := F8
  have O82 := O8
  have BB2 := BB
  have HB3 := Lib.hid b3'
  replace F8 := Lib.hid (F8.out.over b3')
  replace O8 := Lib.hid (O8.out.over b3')
  replace BB := Lib.hid (bel2 BB.out b3')
  have HG9 : Hid (V2.heap.size ≤ w3.heap.size) := Lib.hid b3.size
  have HV3 := Lib.hid hV3
  have HLT := Lib.hid hlt
  clear hV3 ok3 b3 b3' F1 O1 HV2 L8 hlt
  cases q
  · obtain ⟨sb, HSB⟩ : ∃ sb, Hid (sF e1.f d1.f = sb) := ⟨_, Lib.hid rfl⟩
    clear F82 O82 BB2 HB3 HG9
    have KS1 := Lib.hid (fun W h1 h2 => kSt e1 d1 W h1 h2 sb HSB.out)
    have KS2 := Lib.hid (fun W h1 h2 => kSt d1 e1 W h1 h2 sb (by rw [sF_comm]; exact HSB.out))
    have KS3 := Lib.hid (fun W h1 h2 => kSt e1 e1 W h1 h2 true (sF_self _))
    cases hv1 : vF e1.f
    · have HV1 := Lib.hid hv1
      clear hv1
      cases sb
      all_goals
        go_wp2_with (first | (refine wpList_store28 _ _ zE d1 rfl rfl rfl rfl ?_; rw [← HV3.out]) | (refine wpList_load28 _ w2.heap.size e1 ?F rfl rfl rfl ?_; (case F => exact F8.out)))
        refine (kEn0 e1 _ O8.out HV1.out).mono ?_
        rintro r w6 ⟨rfl, b6⟩
        replace F8 := Lib.hid (F8.out.over b6)
        replace F9 := Lib.hid (F9.out.over b6)
        replace O8 := Lib.hid (O8.out.over b6)
        replace O9 := Lib.hid (O9.out.over b6)
        replace BB := Lib.hid (bel2 BB.out b6)
        clear b6
        go_wp2_with (refine wpList_load28 _ w3.heap.size d1 ?F rfl rfl rfl ?_; (case F => exact F9.out))
        refine (kEn d1 _ O9.out).mono ?_
        rintro r w7 ⟨rfl, b7⟩
        replace F8 := Lib.hid (F8.out.over b7)
        replace F9 := Lib.hid (F9.out.over b7)
        replace O8 := Lib.hid (O8.out.over b7)
        replace O9 := Lib.hid (O9.out.over b7)
        replace BB := Lib.hid (bel2 BB.out b7)
        clear b7
        have tokA : True := trivial
        go_wp2_with (first | (have _t := tokA; refine wpList_load28 _ w2.heap.size e1 ?F rfl rfl rfl ?_; (case F => exact F8.out); clear _t tokA) | (refine wpList_load28 _ w3.heap.size d1 ?F rfl rfl rfl ?_; (case F => exact F9.out)))
        refine (KS1.out _ O8.out O9.out).mono ?_
        rintro r w8 ⟨rfl, b8⟩
        replace F8 := Lib.hid (F8.out.over b8)
        replace F9 := Lib.hid (F9.out.over b8)
        replace O8 := Lib.hid (O8.out.over b8)
        replace O9 := Lib.hid (O9.out.over b8)
        replace BB := Lib.hid (bel2 BB.out b8)
        clear b8
        have tokA : True := trivial
        go_wp2_with (first | (have _t := tokA; refine wpList_load28 _ w3.heap.size d1 ?F rfl rfl rfl ?_; (case F => exact F9.out); clear _t tokA) | (refine wpList_load28 _ w2.heap.size e1 ?F rfl rfl rfl ?_; (case F => exact F8.out)))
        refine (KS2.out _ O9.out O8.out).mono ?_
        rintro r w9 ⟨rfl, b9⟩
        replace F8 := Lib.hid (F8.out.over b9)
        replace F9 := Lib.hid (F9.out.over b9)
        replace O8 := Lib.hid (O8.out.over b9)
        replace O9 := Lib.hid (O9.out.over b9)
        replace BB := Lib.hid (bel2 BB.out b9)
        clear b9
        go_wp2_with (refine wpList_load28g _ w2.heap.size e1 ?F (by kernel_rfl) rfl rfl ?_; (case F => exact F8.out))
        refine (KS3.out _ O8.out O8.out).mono ?_
        rintro r w10 ⟨rfl, b10⟩
        replace F8 := Lib.hid (F8.out.over b10)
        replace F9 := Lib.hid (F9.out.over b10)
        replace O8 := Lib.hid (O8.out.over b10)
        replace O9 := Lib.hid (O9.out.over b10)
        replace BB := Lib.hid (bel2 BB.out b10)
        clear b10
        go_wp2_with fail
        go_ret
        exact ⟨rfl, BB.out⟩
    · have HV1 := Lib.hid hv1
      clear hv1
      cases hv2 : vF d1.f
      · have HV2 := Lib.hid hv2
        clear hv2
        cases sb
        all_goals
          go_wp2_with (first | (refine wpList_store28 _ _ zE d1 rfl rfl rfl rfl ?_; rw [← HV3.out]) | (refine wpList_load28 _ w2.heap.size e1 ?F rfl rfl rfl ?_; (case F => exact F8.out)))
          refine (kEn1 e1 _ O8.out HV1.out).mono ?_
          rintro r w6 ⟨rfl, b6⟩
          replace F8 := Lib.hid (F8.out.over b6)
          replace F9 := Lib.hid (F9.out.over b6)
          replace O8 := Lib.hid (O8.out.over b6)
          replace O9 := Lib.hid (O9.out.over b6)
          replace BB := Lib.hid (bel2 BB.out b6)
          clear b6
          go_wp2_with (refine wpList_load28 _ w3.heap.size d1 ?F rfl rfl rfl ?_; (case F => exact F9.out))
          refine (kEn0 d1 _ O9.out HV2.out).mono ?_
          rintro r w7 ⟨rfl, b7⟩
          replace F8 := Lib.hid (F8.out.over b7)
          replace F9 := Lib.hid (F9.out.over b7)
          replace O8 := Lib.hid (O8.out.over b7)
          replace O9 := Lib.hid (O9.out.over b7)
          replace BB := Lib.hid (bel2 BB.out b7)
          clear b7
          have tokA : True := trivial
          go_wp2_with (first | (have _t := tokA; refine wpList_load28 _ w2.heap.size e1 ?F rfl rfl rfl ?_; (case F => exact F8.out); clear _t tokA) | (refine wpList_load28 _ w3.heap.size d1 ?F rfl rfl rfl ?_; (case F => exact F9.out)))
          refine (KS1.out _ O8.out O9.out).mono ?_
          rintro r w8 ⟨rfl, b8⟩
          replace F8 := Lib.hid (F8.out.over b8)
          replace F9 := Lib.hid (F9.out.over b8)
          replace O8 := Lib.hid (O8.out.over b8)
          replace O9 := Lib.hid (O9.out.over b8)
          replace BB := Lib.hid (bel2 BB.out b8)
          clear b8
          have tokA : True := trivial
          go_wp2_with (first | (have _t := tokA; refine wpList_load28 _ w3.heap.size d1 ?F rfl rfl rfl ?_; (case F => exact F9.out); clear _t tokA) | (refine wpList_load28 _ w2.heap.size e1 ?F rfl rfl rfl ?_; (case F => exact F8.out)))
          refine (KS2.out _ O9.out O8.out).mono ?_
          rintro r w9 ⟨rfl, b9⟩
          replace F8 := Lib.hid (F8.out.over b9)
          replace F9 := Lib.hid (F9.out.over b9)
          replace O8 := Lib.hid (O8.out.over b9)
          replace O9 := Lib.hid (O9.out.over b9)
          replace BB := Lib.hid (bel2 BB.out b9)
          clear b9
          go_wp2_with (refine wpList_load28g _ w2.heap.size e1 ?F (by kernel_rfl) rfl rfl ?_; (case F => exact F8.out))
          refine (KS3.out _ O8.out O8.out).mono ?_
          rintro r w10 ⟨rfl, b10⟩
          replace F8 := Lib.hid (F8.out.over b10)
          replace F9 := Lib.hid (F9.out.over b10)
          replace O8 := Lib.hid (O8.out.over b10)
          replace O9 := Lib.hid (O9.out.over b10)
          replace BB := Lib.hid (bel2 BB.out b10)
          clear b10
          go_wp2_with fail
          go_ret
          exact ⟨rfl, BB.out⟩
      · have HV2 := Lib.hid hv2
        clear hv2
        obtain ⟨s, hs⟩ : ∃ s : ByteArray, (⟨(encV e1.f).toArray⟩ : ByteArray) = s := ⟨_, rfl⟩
        obtain ⟨t, ht⟩ : ∃ t : ByteArray, (⟨(encV d1.f).toArray⟩ : ByteArray) = t := ⟨_, rfl⟩
        have HS := Lib.hid hs
        have HT := Lib.hid ht
        clear hs ht
        cases hsb : sb
        · have hne : (s.toList == t.toList) = false := by
            rw [← HS.out, ← HT.out, toList_mk, toList_mk]
            cases hq : (encV e1.f == encV d1.f)
            · rfl
            · exfalso
              have h1 := encV_inj HV1.out HV2.out (by simpa using hq)
              have h2 := HSB.out
              rw [h1, sF_self, hsb] at h2
              cases h2
          subst hsb
          go_wp2_with (first | (refine wpList_store28 _ _ zE d1 rfl rfl rfl rfl ?_; rw [← HV3.out]) | (refine wpList_load28 _ w2.heap.size e1 ?F rfl rfl rfl ?_; (case F => exact F8.out)))
          refine (kEt e1 _ O8.out HV1.out s HS.out).mono ?_
          rintro r w6 ⟨rfl, b6⟩
          replace F8 := Lib.hid (F8.out.over b6)
          replace F9 := Lib.hid (F9.out.over b6)
          replace O8 := Lib.hid (O8.out.over b6)
          replace O9 := Lib.hid (O9.out.over b6)
          replace BB := Lib.hid (bel2 BB.out b6)
          clear b6
          go_wp2_with (refine wpList_load28 _ w3.heap.size d1 ?F rfl rfl rfl ?_; (case F => exact F9.out))
          refine (kEt d1 _ O9.out HV2.out t HT.out).mono ?_
          rintro r w7 ⟨rfl, b7⟩
          replace F8 := Lib.hid (F8.out.over b7)
          replace F9 := Lib.hid (F9.out.over b7)
          replace O8 := Lib.hid (O8.out.over b7)
          replace O9 := Lib.hid (O9.out.over b7)
          replace BB := Lib.hid (bel2 BB.out b7)
          clear b7
          have tokA : True := trivial
          go_wp2_with (first | (have _t := tokA; refine wpList_load28 _ w2.heap.size e1 ?F rfl rfl rfl ?_; (case F => exact F8.out); clear _t tokA) | (refine wpList_load28 _ w3.heap.size d1 ?F rfl rfl rfl ?_; (case F => exact F9.out)))
          refine (KS1.out _ O8.out O9.out).mono ?_
          rintro r w8 ⟨rfl, b8⟩
          replace F8 := Lib.hid (F8.out.over b8)
          replace F9 := Lib.hid (F9.out.over b8)
          replace O8 := Lib.hid (O8.out.over b8)
          replace O9 := Lib.hid (O9.out.over b8)
          replace BB := Lib.hid (bel2 BB.out b8)
          clear b8
          have tokA : True := trivial
          go_wp2_with (first | (have _t := tokA; refine wpList_load28 _ w3.heap.size d1 ?F rfl rfl rfl ?_; (case F => exact F9.out); clear _t tokA) | (refine wpList_load28 _ w2.heap.size e1 ?F rfl rfl rfl ?_; (case F => exact F8.out)))
          refine (KS2.out _ O9.out O8.out).mono ?_
          rintro r w9 ⟨rfl, b9⟩
          replace F8 := Lib.hid (F8.out.over b9)
          replace F9 := Lib.hid (F9.out.over b9)
          replace O8 := Lib.hid (O8.out.over b9)
          replace O9 := Lib.hid (O9.out.over b9)
          replace BB := Lib.hid (bel2 BB.out b9)
          clear b9
          go_wp2_with (refine wpList_load28g _ w2.heap.size e1 ?F (by kernel_rfl) rfl rfl ?_; (case F => exact F8.out))
          refine (KS3.out _ O8.out O8.out).mono ?_
          rintro r w10 ⟨rfl, b10⟩
          replace F8 := Lib.hid (F8.out.over b10)
          replace F9 := Lib.hid (F9.out.over b10)
          replace O8 := Lib.hid (O8.out.over b10)
          replace O9 := Lib.hid (O9.out.over b10)
          replace BB := Lib.hid (bel2 BB.out b10)
          clear b10
          go_wp2_with fail
          go_ret
          exact ⟨rfl, BB.out⟩
        · obtain rfl : s = t := by
            rw [← HS.out, ← HT.out]
            have h2 := HSB.out
            rw [hsb, sF_iff] at h2
            rw [h2]
          subst hsb
          go_wp2_with (first | (refine wpList_store28 _ _ zE d1 rfl rfl rfl rfl ?_; rw [← HV3.out]) | (refine wpList_load28 _ w2.heap.size e1 ?F rfl rfl rfl ?_; (case F => exact F8.out)))
          refine (kEt e1 _ O8.out HV1.out s HS.out).mono ?_
          rintro r w6 ⟨rfl, b6⟩
          replace F8 := Lib.hid (F8.out.over b6)
          replace F9 := Lib.hid (F9.out.over b6)
          replace O8 := Lib.hid (O8.out.over b6)
          replace O9 := Lib.hid (O9.out.over b6)
          replace BB := Lib.hid (bel2 BB.out b6)
          clear b6
          go_wp2_with (refine wpList_load28 _ w3.heap.size d1 ?F rfl rfl rfl ?_; (case F => exact F9.out))
          refine (kEt d1 _ O9.out HV2.out s HT.out).mono ?_
          rintro r w7 ⟨rfl, b7⟩
          replace F8 := Lib.hid (F8.out.over b7)
          replace F9 := Lib.hid (F9.out.over b7)
          replace O8 := Lib.hid (O8.out.over b7)
          replace O9 := Lib.hid (O9.out.over b7)
          replace BB := Lib.hid (bel2 BB.out b7)
          clear b7
          have tokA : True := trivial
          go_wp2_with (first | (have _t := tokA; refine wpList_load28 _ w2.heap.size e1 ?F rfl rfl rfl ?_; (case F => exact F8.out); clear _t tokA) | (refine wpList_load28 _ w3.heap.size d1 ?F rfl rfl rfl ?_; (case F => exact F9.out)))
          refine (KS1.out _ O8.out O9.out).mono ?_
          rintro r w8 ⟨rfl, b8⟩
          replace F8 := Lib.hid (F8.out.over b8)
          replace F9 := Lib.hid (F9.out.over b8)
          replace O8 := Lib.hid (O8.out.over b8)
          replace O9 := Lib.hid (O9.out.over b8)
          replace BB := Lib.hid (bel2 BB.out b8)
          clear b8
          have tokA : True := trivial
          go_wp2_with (first | (have _t := tokA; refine wpList_load28 _ w3.heap.size d1 ?F rfl rfl rfl ?_; (case F => exact F9.out); clear _t tokA) | (refine wpList_load28 _ w2.heap.size e1 ?F rfl rfl rfl ?_; (case F => exact F8.out)))
          refine (KS2.out _ O9.out O8.out).mono ?_
          rintro r w9 ⟨rfl, b9⟩
          replace F8 := Lib.hid (F8.out.over b9)
          replace F9 := Lib.hid (F9.out.over b9)
          replace O8 := Lib.hid (O8.out.over b9)
          replace O9 := Lib.hid (O9.out.over b9)
          replace BB := Lib.hid (bel2 BB.out b9)
          clear b9
          go_wp2_with (refine wpList_load28g _ w2.heap.size e1 ?F (by kernel_rfl) rfl rfl ?_; (case F => exact F8.out))
          refine (KS3.out _ O8.out O8.out).mono ?_
          rintro r w10 ⟨rfl, b10⟩
          replace F8 := Lib.hid (F8.out.over b10)
          replace F9 := Lib.hid (F9.out.over b10)
          replace O8 := Lib.hid (O8.out.over b10)
          replace O9 := Lib.hid (O9.out.over b10)
          replace BB := Lib.hid (bel2 BB.out b10)
          clear b10
          go_wp2_with fail
          go_ret
          exact ⟨rfl, BB.out⟩
  · have HSB : Hid (sF e1.f e1.f = true) := Lib.hid (sF_self _)
    have F94 : Hid (FcAt (V3.setCells w3.heap.size 0 (elF e1)) w3.heap.size e1) := Lib.hid (F9.out.put e1)
    have KZ : Kp (fun j => j = w3.heap.size) V3 (V3.setCells w3.heap.size 0 (elF e1)) := Kp.setCells (S := fun j => j = w3.heap.size) rfl _ _ _ (Kp.refl _ _)
    have F84 : Hid (FcAt (V3.setCells w3.heap.size 0 (elF e1)) w2.heap.size e1) := Lib.hid (KZ.heap F8.out (by have := HLT.out; omega))
    have hb24 : Below V2.heap.size V2 (V3.setCells w3.heap.size 0 (elF e1)) := HB3.out.trans (KZ.below HB3.out.size (by rintro j rfl; exact HG9.out))
    have O84 : Hid (FeOk (V3.setCells w3.heap.size 0 (elF e1)) e1) := Lib.hid (O82.out.over hb24)
    have BB4 : Hid (Below w.heap.size w (V3.setCells w3.heap.size 0 (elF e1))) := Lib.hid (bel2 BB2.out hb24)
    have HT9 := Lib.hid F9.out.there
    obtain ⟨V4, hV4⟩ : ∃ V4, V4 = V3.setCells w3.heap.size 0 (elF e1) := ⟨_, rfl⟩
    rw [← hV4] at F94 F84 O84 BB4
    have HV4 := Lib.hid hV4
    clear hV4 F82 O82 BB2 HB3 HG9 KZ hb24 F9 O8 O9 BB
    go_wp2_with (first | (refine wpList_store28 _ _ zE d1 rfl rfl rfl rfl ?_; rw [← HV3.out]) | (refine wpList_storeK w3.heap.size e1 ?T _ _ rfl rfl rfl rfl ?_; (case T => exact HT9.out); rw [← HV4.out]) | (refine wpList_load28 _ w2.heap.size e1 ?F rfl rfl rfl ?_; (case F => first | exact F8.out | exact F84.out)))
    clear F8
    have F8 := F84
    have O8 := O84
    have F9 := F94
    have O9 := O84
    have BB := BB4
    clear F84 O84 F94 BB4 HV3 HV4 HT9
    clear O9
    have KS3 := Lib.hid (fun W h1 h2 => kSt e1 e1 W h1 h2 true (sF_self _))
    cases hv1 : vF e1.f
    · have HV1 := Lib.hid hv1
      clear hv1
      refine (kEn0 e1 _ O8.out HV1.out).mono ?_
      rintro r w6 ⟨rfl, b6⟩
      replace F8 := Lib.hid (F8.out.over b6)
      replace F9 := Lib.hid (F9.out.over b6)
      replace O8 := Lib.hid (O8.out.over b6)
      replace BB := Lib.hid (bel2 BB.out b6)
      clear b6
      go_wp2_with (first | (refine wpList_load28 _ w2.heap.size e1 ?F rfl rfl rfl ?_; (case F => exact F8.out)) | (refine wpList_load28 _ w3.heap.size e1 ?F rfl rfl rfl ?_; (case F => exact F9.out)) | (refine wpList_load28g _ w2.heap.size e1 ?F (by kernel_rfl) rfl rfl ?_; (case F => exact F8.out)) | (refine wpList_load28g _ w3.heap.size e1 ?F (by kernel_rfl) rfl rfl ?_; (case F => exact F9.out)))
      refine (kEn0 e1 _ O8.out HV1.out).mono ?_
      rintro r w7 ⟨rfl, b7⟩
      replace F8 := Lib.hid (F8.out.over b7)
      replace F9 := Lib.hid (F9.out.over b7)
      replace O8 := Lib.hid (O8.out.over b7)
      replace BB := Lib.hid (bel2 BB.out b7)
      clear b7
      go_wp2_with (first | (refine wpList_load28 _ w2.heap.size e1 ?F rfl rfl rfl ?_; (case F => exact F8.out)) | (refine wpList_load28 _ w3.heap.size e1 ?F rfl rfl rfl ?_; (case F => exact F9.out)) | (refine wpList_load28g _ w2.heap.size e1 ?F (by kernel_rfl) rfl rfl ?_; (case F => exact F8.out)) | (refine wpList_load28g _ w3.heap.size e1 ?F (by kernel_rfl) rfl rfl ?_; (case F => exact F9.out)))
      refine (KS3.out _ O8.out O8.out).mono ?_
      rintro r w8 ⟨rfl, b8⟩
      replace F8 := Lib.hid (F8.out.over b8)
      replace F9 := Lib.hid (F9.out.over b8)
      replace O8 := Lib.hid (O8.out.over b8)
      replace BB := Lib.hid (bel2 BB.out b8)
      clear b8
      go_wp2_with (first | (refine wpList_load28 _ w2.heap.size e1 ?F rfl rfl rfl ?_; (case F => exact F8.out)) | (refine wpList_load28 _ w3.heap.size e1 ?F rfl rfl rfl ?_; (case F => exact F9.out)) | (refine wpList_load28g _ w2.heap.size e1 ?F (by kernel_rfl) rfl rfl ?_; (case F => exact F8.out)) | (refine wpList_load28g _ w3.heap.size e1 ?F (by kernel_rfl) rfl rfl ?_; (case F => exact F9.out)))
      refine (KS3.out _ O8.out O8.out).mono ?_
      rintro r w9 ⟨rfl, b9⟩
      replace F8 := Lib.hid (F8.out.over b9)
      replace F9 := Lib.hid (F9.out.over b9)
      replace O8 := Lib.hid (O8.out.over b9)
      replace BB := Lib.hid (bel2 BB.out b9)
      clear b9
      go_wp2_with (first | (refine wpList_load28 _ w2.heap.size e1 ?F rfl rfl rfl ?_; (case F => exact F8.out)) | (refine wpList_load28 _ w3.heap.size e1 ?F rfl rfl rfl ?_; (case F => exact F9.out)) | (refine wpList_load28g _ w2.heap.size e1 ?F (by kernel_rfl) rfl rfl ?_; (case F => exact F8.out)) | (refine wpList_load28g _ w3.heap.size e1 ?F (by kernel_rfl) rfl rfl ?_; (case F => exact F9.out)))
      refine (KS3.out _ O8.out O8.out).mono ?_
      rintro r w10 ⟨rfl, b10⟩
      replace F8 := Lib.hid (F8.out.over b10)
      replace F9 := Lib.hid (F9.out.over b10)
      replace O8 := Lib.hid (O8.out.over b10)
      replace BB := Lib.hid (bel2 BB.out b10)
      clear b10
      go_wp2_with (first | (refine wpList_load28 _ w2.heap.size e1 ?F rfl rfl rfl ?_; (case F => exact F8.out)) | (refine wpList_load28 _ w3.heap.size e1 ?F rfl rfl rfl ?_; (case F => exact F9.out)) | (refine wpList_load28g _ w2.heap.size e1 ?F (by kernel_rfl) rfl rfl ?_; (case F => exact F8.out)) | (refine wpList_load28g _ w3.heap.size e1 ?F (by kernel_rfl) rfl rfl ?_; (case F => exact F9.out)))
      go_ret
      exact ⟨rfl, BB.out⟩
    · have HV1 := Lib.hid hv1
      clear hv1
      obtain ⟨s, hs⟩ : ∃ s : ByteArray, (⟨(encV e1.f).toArray⟩ : ByteArray) = s := ⟨_, rfl⟩
      have HS := Lib.hid hs
      clear hs
      refine (kEt e1 _ O8.out HV1.out s HS.out).mono ?_
      rintro r w6 ⟨rfl, b6⟩
      replace F8 := Lib.hid (F8.out.over b6)
      replace F9 := Lib.hid (F9.out.over b6)
      replace O8 := Lib.hid (O8.out.over b6)
      replace BB := Lib.hid (bel2 BB.out b6)
      clear b6
      go_wp2_with (first | (refine wpList_load28 _ w2.heap.size e1 ?F rfl rfl rfl ?_; (case F => exact F8.out)) | (refine wpList_load28 _ w3.heap.size e1 ?F rfl rfl rfl ?_; (case F => exact F9.out)) | (refine wpList_load28g _ w2.heap.size e1 ?F (by kernel_rfl) rfl rfl ?_; (case F => exact F8.out)) | (refine wpList_load28g _ w3.heap.size e1 ?F (by kernel_rfl) rfl rfl ?_; (case F => exact F9.out)))
      refine (kEt e1 _ O8.out HV1.out s HS.out).mono ?_
      rintro r w7 ⟨rfl, b7⟩
      replace F8 := Lib.hid (F8.out.over b7)
      replace F9 := Lib.hid (F9.out.over b7)
      replace O8 := Lib.hid (O8.out.over b7)
      replace BB := Lib.hid (bel2 BB.out b7)
      clear b7
      go_wp2_with (first | (refine wpList_load28 _ w2.heap.size e1 ?F rfl rfl rfl ?_; (case F => exact F8.out)) | (refine wpList_load28 _ w3.heap.size e1 ?F rfl rfl rfl ?_; (case F => exact F9.out)) | (refine wpList_load28g _ w2.heap.size e1 ?F (by kernel_rfl) rfl rfl ?_; (case F => exact F8.out)) | (refine wpList_load28g _ w3.heap.size e1 ?F (by kernel_rfl) rfl rfl ?_; (case F => exact F9.out)))
      refine (KS3.out _ O8.out O8.out).mono ?_
      rintro r w8 ⟨rfl, b8⟩
      replace F8 := Lib.hid (F8.out.over b8)
      replace F9 := Lib.hid (F9.out.over b8)
      replace O8 := Lib.hid (O8.out.over b8)
      replace BB := Lib.hid (bel2 BB.out b8)
      clear b8
      go_wp2_with (first | (refine wpList_load28 _ w2.heap.size e1 ?F rfl rfl rfl ?_; (case F => exact F8.out)) | (refine wpList_load28 _ w3.heap.size e1 ?F rfl rfl rfl ?_; (case F => exact F9.out)) | (refine wpList_load28g _ w2.heap.size e1 ?F (by kernel_rfl) rfl rfl ?_; (case F => exact F8.out)) | (refine wpList_load28g _ w3.heap.size e1 ?F (by kernel_rfl) rfl rfl ?_; (case F => exact F9.out)))
      refine (KS3.out _ O8.out O8.out).mono ?_
      rintro r w9 ⟨rfl, b9⟩
      replace F8 := Lib.hid (F8.out.over b9)
      replace F9 := Lib.hid (F9.out.over b9)
      replace O8 := Lib.hid (O8.out.over b9)
      replace BB := Lib.hid (bel2 BB.out b9)
      clear b9
      go_wp2_with (first | (refine wpList_load28 _ w2.heap.size e1 ?F rfl rfl rfl ?_; (case F => exact F8.out)) | (refine wpList_load28 _ w3.heap.size e1 ?F rfl rfl rfl ?_; (case F => exact F9.out)) | (refine wpList_load28g _ w2.heap.size e1 ?F (by kernel_rfl) rfl rfl ?_; (case F => exact F8.out)) | (refine wpList_load28g _ w3.heap.size e1 ?F (by kernel_rfl) rfl rfl ?_; (case F => exact F9.out)))
      refine (KS3.out _ O8.out O8.out).mono ?_
      rintro r w10 ⟨rfl, b10⟩
      replace F8 := Lib.hid (F8.out.over b10)
      replace F9 := Lib.hid (F9.out.over b10)
      replace O8 := Lib.hid (O8.out.over b10)
      replace BB := Lib.hid (bel2 BB.out b10)
      clear b10
      go_wp2_with (first | (refine wpList_load28 _ w2.heap.size e1 ?F rfl rfl rfl ?_; (case F => exact F8.out)) | (refine wpList_load28 _ w3.heap.size e1 ?F rfl rfl rfl ?_; (case F => exact F9.out)) | (refine wpList_load28g _ w2.heap.size e1 ?F (by kernel_rfl) rfl rfl ?_; (case F => exact F8.out)) | (refine wpList_load28g _ w3.heap.size e1 ?F (by kernel_rfl) rfl rfl ?_; (case F => exact F9.out)))
      go_ret
      exact ⟨rfl, BB.out⟩
end Go.Proofs.YtlhcckjfgpcohaaGreatDoor
