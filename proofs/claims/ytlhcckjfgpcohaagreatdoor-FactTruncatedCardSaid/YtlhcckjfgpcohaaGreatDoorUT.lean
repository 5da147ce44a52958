/- The law's helpers: pick, uses. FactTruncated: the walk of the statement's text. -/
import Derived.Test.YtlhcckjfgpcohaaGreatDoorU5
import Derived.Test.YtlhcckjfgpcohaaGreatDoorU3
namespace Go.Proofs.YtlhcckjfgpcohaaGreatDoor
open Go.RowKit Go.MapKept
set_option maxRecDepth 100000
set_option linter.unusedSimpArgs false
set_option linter.unusedVariables false
set_option maxHeartbeats 1000000 in
theorem pick5 (k : Int) (n : Nat) (hk : Bd k) (hn : 0 < n) (hm : n ≤ 100000000) :
    ∃ r : Nat, r < n ∧ ∀ w, Calls Tryz.prog 16 #[.int .i64 k, .int .i64 n] w fun x w' => x = .returned (.int .i64 r) ∧ w = w' := by
  obtain ⟨h1, h2⟩ := hk
  have hn0 : (n : Int) ≠ 0 := by omega
  by_cases hneg : k < 0
  · have f1 := Int.tmod_lt_of_pos (-(k + 1)) (b := (n : Int)) (by omega)
    have f2 := Int.tmod_nonneg (n : Int) (a := -(k + 1)) (by omega)
    rw [Int.neg_tmod] at f1 f2
    refine ⟨(-(k + 1).tmod n).toNat, by omega, fun w => ?_⟩
    go_enter Tryz.func16, Tryz.ntmps16
    go_wp2
    go_ret
    exact ⟨by
      show Ending.returned (.int .i64 (-(k + 1).tmod n)) = _
      rw [Int.toNat_of_nonneg f2], rfl⟩
  · have f1 := Int.emod_lt_of_pos k (b := (n : Int)) (by omega)
    have f2 := Int.emod_nonneg k (b := (n : Int)) hn0
    obtain ⟨r, hr⟩ : ∃ r : Nat, k % (n : Int) = (r : Int) := ⟨(k % n).toNat, (Int.toNat_of_nonneg f2).symm⟩
    have HR := Lib.hid hr
    refine ⟨r, by omega, fun w => ?_⟩
    clear hr f1 f2
    go_enter Tryz.func16, Tryz.ntmps16
    go_wp2
    go_ret
    exact ⟨by
      show Ending.returned (.int .i64 (k % (n : Int))) = _
      rw [HR.out], rfl⟩
end Go.Proofs.YtlhcckjfgpcohaaGreatDoor
namespace Go.Proofs.YtlhcckjfgpcohaaGreatDoor
open Go.RowKit Go.MapKept
set_option maxRecDepth 100000
set_option linter.unusedSimpArgs false
set_option linter.unusedVariables false
theorem kDt (s : ByteArray) (W : World) (hs : s.size ≤ maxLen) (n : Int) (hn : (decF s.data.toList).2 = n) : Calls Tryz.prog 14 #[.string s] W fun r w' => ∃ d : FE, r = .returned (.tuple #[.agg #[.int .i64 d.f.n, .int .i64 d.f.tm, .int .i64 d.f.kd, .int .i64 d.f.st, .string ⟨d.f.lg.toArray⟩, .int .i64 d.f.rv, .int .i64 d.f.bs, .string ⟨d.f.ti.toArray⟩, .string ⟨d.f.au.toArray⟩, .slice d.ta d.tn d.tc, .slice d.ba d.bn d.bc, .int .i64 d.f.lb.u, .slice d.la d.ln d.lc, .int .i64 d.f.lb.ap, .int .i64 d.f.lb.d, .int .i64 d.f.ed, .int .i64 d.f.bk, .int .i64 d.f.se, .string ⟨d.f.tx.toArray⟩, .string ⟨d.f.nm.toArray⟩, .int .i64 d.f.pt, .int .i64 d.f.cl, .int .i64 d.f.un], .int .i64 n]) ∧ Below W.heap.size W w' := by
  subst hn
  exact (kDe s W hs).mono (fun r w' ⟨d, h1, _, _, h2⟩ => ⟨d, h1, h2⟩)
theorem encV_pos {f : Fct} (h : vF f = true) : 0 < (encV f).length := by
  obtain ⟨l, ho, -, -⟩ := vF_some h
  rw [encV_some ho]
  have h1 : 0 < (encInt f.n).length := enc_pos _ _
  simp only [encG, hdF, List.flatMap_cons, List.length_append, encF]
  omega
set_option maxHeartbeats 16000000 in
theorem trunc5 (e : FE) (k : Int) (m : ByteArray) (w : World) (h : FeOk w e) (hk : (Lit.int .i64 k).wf = true) (hm : m.size ≤ maxLen) : Calls Tryz.prog 5 #[aggF e, .int .i64 k, .string m] w fun r w' => r = .returned (.bool true) ∧ Below w.heap.size w w' := by
  have hmm : m.size ≤ 9223372036854775807 := by unfold maxLen at hm; omega
  obtain ⟨j, hj, hjs, hj2⟩ : ∃ j : Nat, min (m.size : Int) 20 = (j : Int) ∧ j ≤ m.size ∧ j ≤ 20 := by
    by_cases q : m.size ≤ 20
    · exact ⟨m.size, by omega, Nat.le_refl _, q⟩
    · exact ⟨20, by omega, by omega, Nat.le_refl _⟩
  obtain ⟨V0, hV0⟩ : ∃ V0, V0 = w.alloc (.cells #[.int .i64 e.f.n, .int .i64 e.f.tm, .int .i64 e.f.kd, .int .i64 e.f.st, .string ⟨e.f.lg.toArray⟩, .int .i64 e.f.rv, .int .i64 e.f.bs, .string ⟨e.f.ti.toArray⟩, .string ⟨e.f.au.toArray⟩, .slice e.ta e.tn e.tc, .slice e.ba e.bn e.bc, .int .i64 e.f.lb.u, .slice e.la e.ln e.lc, .int .i64 e.f.lb.ap, .int .i64 e.f.lb.d, .int .i64 e.f.ed, .int .i64 e.f.bk, .int .i64 e.f.se, .string ⟨e.f.tx.toArray⟩, .string ⟨e.f.nm.toArray⟩, .int .i64 e.f.pt, .int .i64 e.f.cl, .int .i64 e.f.un] 28) := ⟨_, rfl⟩
  have F0 : Hid (FcAt V0 w.heap.size e) := Lib.hid (by rw [hV0]; exact new_fact w e)
  have O0 : Hid (FeOk V0 e) := Lib.hid (by rw [hV0]; exact h.over (below_alloc w _))
  have B0 : Hid (Below w.heap.size w V0) := Lib.hid (by rw [hV0]; exact below_alloc w _)
  have HV0 := Lib.hid hV0
  have HM := Lib.hid hm
  clear hV0 h hm
  show Calls _ _ #[.agg #[.int .i64 e.f.n, .int .i64 e.f.tm, .int .i64 e.f.kd, .int .i64 e.f.st, .string ⟨e.f.lg.toArray⟩, .int .i64 e.f.rv, .int .i64 e.f.bs, .string ⟨e.f.ti.toArray⟩, .string ⟨e.f.au.toArray⟩, .slice e.ta e.tn e.tc, .slice e.ba e.bn e.bc, .int .i64 e.f.lb.u, .slice e.la e.ln e.lc, .int .i64 e.f.lb.ap, .int .i64 e.f.lb.d, .int .i64 e.f.ed, .int .i64 e.f.bk, .int .i64 e.f.se, .string ⟨e.f.tx.toArray⟩, .string ⟨e.f.nm.toArray⟩, .int .i64 e.f.pt, .int .i64 e.f.cl, .int .i64 e.f.un], _, _] w _
  go_enter Tryz.func5, Tryz.ntmps5
  go_wp2_with fail
  rw [← HV0.out]
  refine (sane5 V0).mono ?_
  rintro r w1 ⟨rfl, b1⟩
  replace F0 := Lib.hid (F0.out.over b1)
  replace O0 := Lib.hid (O0.out.over b1)
  have B1 := Lib.hid (bel2 B0.out b1)
  clear b1 B0 HV0
  go_wp2_with (refine wpList_load28 _ w.heap.size e ?F rfl rfl rfl ?_; (case F => exact F0.out))
  refine (kF e w1 O0.out).mono ?_
  rintro r w2 ⟨e1, rfl, -, ok1, b2⟩
  have O2 := Lib.hid ok1
  have B2 := Lib.hid (bel2 B1.out b2)
  clear ok1 b2 B1 F0 O0
  cases hv : vF e1.f
  · have HV := Lib.hid hv
    clear hv
    go_wp2_with fail
    refine (kEn0 e1 w2 O2.out HV.out).mono ?_
    rintro r w3 ⟨rfl, b3⟩
    have B3 := Lib.hid (bel2 B2.out b3)
    clear b3 B2 O2
    go_wp2
    go_ret
    exact ⟨rfl, B3.out⟩
  · have HV := Lib.hid hv
    have HEL := Lib.hid (encV_len hv)
    have HE0 := Lib.hid (encV_pos hv)
    have HPRE := Lib.hid (fun k hk => decF_prefix hv k hk)
    have HMORE := Lib.hid (fun m hm => decF_more hv m hm)
    have HDE := Lib.hid (decF_enc hv)
    have KE := Lib.hid (kEn1 e1 w2 O2.out hv)
    clear hv
    generalize encV e1.f = E at HEL HE0 HPRE HMORE HDE KE
    go_wp2_with fail
    refine KE.out.mono ?_
    rintro r w3 ⟨rfl, b3⟩
    have B3 := Lib.hid (bel2 B2.out b3)
    clear b3 B2 O2 KE
    have hsE := mk_size' E
    have hE1 : E.length ≤ 10000000 := HEL.out
    have hE2 : 0 < E.length := HE0.out
    have hEz : ((E.length : Int) == 0) = false := beq_eq_false_iff_ne.2 (by omega)
    obtain ⟨q, hq, KP⟩ := pick5 k E.length (wf64 hk) HE0.out (by have := HEL.out; omega)
    have KP' := Lib.hid KP
    clear KP
    go_wp2_with fail
    refine (KP'.out _).mono ?_
    rintro r w4 ⟨rfl, rfl⟩
    have hEX : (⟨E.toArray⟩ : ByteArray).extract 0 q = ⟨(E.take q).toArray⟩ := extract_mk E q
    have K1 := Lib.hid (kDt ⟨(E.take q).toArray⟩ w3 (by rw [mk_size', List.length_take]; unfold maxLen; omega) 10 (by rw [show (⟨(E.take q).toArray⟩ : ByteArray).data.toList = E.take q by simp]; exact HPRE.out q hq))
    go_wp2_with fail
    refine K1.out.mono ?_
    rintro r w5 ⟨e2, rfl, b5⟩
    obtain ⟨V5, hV5⟩ : ∃ V5, V5 = w5.alloc (.cells #[.int .i64 e2.f.n, .int .i64 e2.f.tm, .int .i64 e2.f.kd, .int .i64 e2.f.st, .string ⟨e2.f.lg.toArray⟩, .int .i64 e2.f.rv, .int .i64 e2.f.bs, .string ⟨e2.f.ti.toArray⟩, .string ⟨e2.f.au.toArray⟩, .slice e2.ta e2.tn e2.tc, .slice e2.ba e2.bn e2.bc, .int .i64 e2.f.lb.u, .slice e2.la e2.ln e2.lc, .int .i64 e2.f.lb.ap, .int .i64 e2.f.lb.d, .int .i64 e2.f.ed, .int .i64 e2.f.bk, .int .i64 e2.f.se, .string ⟨e2.f.tx.toArray⟩, .string ⟨e2.f.nm.toArray⟩, .int .i64 e2.f.pt, .int .i64 e2.f.cl, .int .i64 e2.f.un] 28) := ⟨_, rfl⟩
    have B5 : Hid (Below w.heap.size w V5) := Lib.hid (by rw [hV5]; exact bel2 (bel2 B3.out b5) (below_alloc w5 _))
    have HV5 := Lib.hid hV5
    clear hV5 b5 B3 K1 HPRE hEX KP'
    obtain ⟨x, hx⟩ : ∃ x, m.extract 0 j = x := ⟨_, rfl⟩
    have hxz : x.size = j := by rw [← hx, ByteArray.size_extract]; omega
    have hxl : x.size ≤ 20 := by omega
    have HXZ := Lib.hid hxz
    clear hxz
    obtain ⟨y, hy⟩ : ∃ y, (⟨E.toArray⟩ : ByteArray) ++ x = y := ⟨_, rfl⟩
    have HY : Hid (y = ⟨(E ++ x.data.toList).toArray⟩) := Lib.hid (by rw [← hy]; exact bytes_ext (by simp))
    have hyl : y.size ≤ 10000020 := by rw [← hy, ByteArray.size_append, mk_size']; omega
    obtain ⟨nn, HNN⟩ : ∃ nn, Hid ((decF y.data.toList).2 = nn) := ⟨_, Lib.hid rfl⟩
    have K2 := Lib.hid (fun W => kDt y W (by unfold maxLen; omega) nn HNN.out)
    go_wp2_with (refine wpList_store28 _ _ zE e2 rfl rfl rfl rfl ?_; rw [← HV5.out])
    refine (K2.out _).mono ?_
    rintro r w6 ⟨e3, rfl, b6⟩
    obtain ⟨V6, hV6⟩ : ∃ V6, V6 = w6.alloc (.cells #[.int .i64 e3.f.n, .int .i64 e3.f.tm, .int .i64 e3.f.kd, .int .i64 e3.f.st, .string ⟨e3.f.lg.toArray⟩, .int .i64 e3.f.rv, .int .i64 e3.f.bs, .string ⟨e3.f.ti.toArray⟩, .string ⟨e3.f.au.toArray⟩, .slice e3.ta e3.tn e3.tc, .slice e3.ba e3.bn e3.bc, .int .i64 e3.f.lb.u, .slice e3.la e3.ln e3.lc, .int .i64 e3.f.lb.ap, .int .i64 e3.f.lb.d, .int .i64 e3.f.ed, .int .i64 e3.f.bk, .int .i64 e3.f.se, .string ⟨e3.f.tx.toArray⟩, .string ⟨e3.f.nm.toArray⟩, .int .i64 e3.f.pt, .int .i64 e3.f.cl, .int .i64 e3.f.un] 28) := ⟨_, rfl⟩
    have B6 : Hid (Below w.heap.size w V6) := Lib.hid (by rw [hV6]; exact bel2 (bel2 B5.out b6) (below_alloc w6 _))
    have HV6 := Lib.hid hV6
    clear hV6 b6 B5 K2 HV5
    by_cases hm0 : m.size = 0
    · obtain rfl : m = ⟨#[]⟩ := by
        apply ByteArray.ext
        exact Array.eq_empty_of_size_eq_zero hm0
      have hx1 : x = ⟨#[]⟩ := by
        apply ByteArray.ext
        exact Array.eq_empty_of_size_eq_zero (show x.size = 0 by rw [HXZ.out]; omega)
      have hn0 : nn = 0 := by
        have h1 := HNN.out
        rw [HY.out, hx1, show ((⟨(E ++ (⟨#[]⟩ : ByteArray).data.toList).toArray⟩ : ByteArray).data.toList) = E by simp, HDE.out] at h1
        exact h1.symm
      subst hn0
      clear hx hy hx1 hj hjs hm0 hxl hyl
      go_wp2_with (refine wpList_store28 _ _ zE e3 rfl rfl rfl rfl ?_; rw [← HV6.out])
      go_ret
      exact ⟨rfl, B6.out⟩
    · have hne : ¬ m = ⟨#[]⟩ := fun q => hm0 (by rw [q]; rfl)
      have hie : m.toList.isEmpty = false := by
        rw [ByteArray.toList_eq]
        cases hq : m.data.toList with
        | nil =>
          exfalso
          apply hm0
          have h2 : m.data.toList.length = m.size := by simp
          rw [hq] at h2
          simpa using h2.symm
        | cons a l => rfl
      have hn0 : nn = 10 := by
        have h1 := HNN.out
        rw [HY.out, show ((⟨(E ++ x.data.toList).toArray⟩ : ByteArray).data.toList) = E ++ x.data.toList by simp] at h1
        rw [← h1]
        exact HMORE.out _ (fun q => by
          have h2 : x.data.toList.length = x.size := by simp
          rw [q, List.length_nil, HXZ.out] at h2
          omega)
      subst hn0
      clear hx hy hj hjs hm0 hxl hyl
      go_wp2_with (refine wpList_store28 _ _ zE e3 rfl rfl rfl rfl ?_; rw [← HV6.out])
      go_ret
      exact ⟨rfl, B6.out⟩
end Go.Proofs.YtlhcckjfgpcohaaGreatDoor
