/- FactRoundTrip: the walk of the statement's text. -/
import Derived.Test.YtlhcckjfgpcohaaGreatDoorU5
namespace Go.Proofs.YtlhcckjfgpcohaaGreatDoor
open Go.RowKit Go.MapKept
set_option maxRecDepth 100000
set_option linter.unusedSimpArgs false
set_option linter.unusedVariables false
set_option maxHeartbeats 16000000 in
theorem round5 (e : FE) (w : World) (h : FeOk w e) : Calls Tryz.prog 3 #[aggF e] w fun r w' => r = .returned (.bool true) ∧ Below w.heap.size w w' := by
  obtain ⟨V0, hV0⟩ : ∃ V0, V0 = w.alloc (.cells #[.int .i64 e.f.n, .int .i64 e.f.tm, .int .i64 e.f.kd, .int .i64 e.f.st, .string ⟨e.f.lg.toArray⟩, .int .i64 e.f.rv, .int .i64 e.f.bs, .string ⟨e.f.ti.toArray⟩, .string ⟨e.f.au.toArray⟩, .slice e.ta e.tn e.tc, .slice e.ba e.bn e.bc, .int .i64 e.f.lb.u, .slice e.la e.ln e.lc, .int .i64 e.f.lb.ap, .int .i64 e.f.lb.d, .int .i64 e.f.ed, .int .i64 e.f.bk, .int .i64 e.f.se, .string ⟨e.f.tx.toArray⟩, .string ⟨e.f.nm.toArray⟩, .int .i64 e.f.pt, .int .i64 e.f.cl, .int .i64 e.f.un] 28) := ⟨_, rfl⟩
  have F0 : Hid (FcAt V0 w.heap.size e) := Lib.hid (by rw [hV0]; exact new_fact w e)
  have O0 : Hid (FeOk V0 e) := Lib.hid (by rw [hV0]; exact h.over (below_alloc w _))
  have B0 : Hid (Below w.heap.size w V0) := Lib.hid (by rw [hV0]; exact below_alloc w _)
  have HV0 := Lib.hid hV0
  clear hV0 h
  show Calls _ _ #[.agg #[.int .i64 e.f.n, .int .i64 e.f.tm, .int .i64 e.f.kd, .int .i64 e.f.st, .string ⟨e.f.lg.toArray⟩, .int .i64 e.f.rv, .int .i64 e.f.bs, .string ⟨e.f.ti.toArray⟩, .string ⟨e.f.au.toArray⟩, .slice e.ta e.tn e.tc, .slice e.ba e.bn e.bc, .int .i64 e.f.lb.u, .slice e.la e.ln e.lc, .int .i64 e.f.lb.ap, .int .i64 e.f.lb.d, .int .i64 e.f.ed, .int .i64 e.f.bk, .int .i64 e.f.se, .string ⟨e.f.tx.toArray⟩, .string ⟨e.f.nm.toArray⟩, .int .i64 e.f.pt, .int .i64 e.f.cl, .int .i64 e.f.un]] w _
  go_enter Tryz.func3, Tryz.ntmps3
  go_wp2_with fail
  rw [← HV0.out]
  refine (sane5 V0).mono ?_
  rintro r w1 ⟨rfl, b1⟩
  replace F0 := Lib.hid (F0.out.over b1)
  replace O0 := Lib.hid (O0.out.over b1)
  have B1 := Lib.hid (bel2 B0.out b1)
  clear b1 B0 HV0
  go_wp2_with (refine wpList_load28 _ w.heap.size e ?F rfl rfl rfl ?_; (case F => exact F0.out))
  refine (kF e w1 O0.out).mono ?_
  rintro r w2 ⟨e1, rfl, -, ok1, b2⟩
  obtain ⟨V2, hV2⟩ : ∃ V2, V2 = w2.alloc (.cells #[.int .i64 e1.f.n, .int .i64 e1.f.tm, .int .i64 e1.f.kd, .int .i64 e1.f.st, .string ⟨e1.f.lg.toArray⟩, .int .i64 e1.f.rv, .int .i64 e1.f.bs, .string ⟨e1.f.ti.toArray⟩, .string ⟨e1.f.au.toArray⟩, .slice e1.ta e1.tn e1.tc, .slice e1.ba e1.bn e1.bc, .int .i64 e1.f.lb.u, .slice e1.la e1.ln e1.lc, .int .i64 e1.f.lb.ap, .int .i64 e1.f.lb.d, .int .i64 e1.f.ed, .int .i64 e1.f.bk, .int .i64 e1.f.se, .string ⟨e1.f.tx.toArray⟩, .string ⟨e1.f.nm.toArray⟩, .int .i64 e1.f.pt, .int .i64 e1.f.cl, .int .i64 e1.f.un] 28) := ⟨_, rfl⟩
  have F2 : Hid (FcAt V2 w2.heap.size e1) := Lib.hid (by rw [hV2]; exact new_fact w2 e1)
  have O2 : Hid (FeOk V2 e1) := Lib.hid (by rw [hV2]; exact ok1.over (below_alloc w2 _))
  have B2 : Hid (Below w.heap.size w V2) := Lib.hid (by rw [hV2]; exact bel2 (bel2 B1.out b2) (below_alloc w2 _))
  have HV2 := Lib.hid hV2
  clear hV2 ok1 b2 B1 F0 O0
  cases hv : vF e1.f
  · have HV := Lib.hid hv
    clear hv
    go_wp2_with (first | (refine wpList_store28 _ _ zE e1 rfl rfl rfl rfl ?_; rw [← HV2.out]) | (refine wpList_load28 _ w2.heap.size e1 ?F rfl rfl rfl ?_; (case F => exact F2.out)))
    refine (kEn0 e1 V2 O2.out HV.out).mono ?_
    rintro r w3 ⟨rfl, b3⟩
    replace F2 := Lib.hid (F2.out.over b3)
    replace O2 := Lib.hid (O2.out.over b3)
    have B3 := Lib.hid (bel2 B2.out b3)
    clear b3 B2 HV2
    have KV := Lib.hid (kVa e1 w3 O2.out)
    rw [HV.out] at KV
    go_wp2_with (refine wpList_load28 _ w2.heap.size e1 ?F rfl rfl rfl ?_; (case F => exact F2.out))
    refine KV.out.mono ?_
    rintro r w4 ⟨rfl, b4⟩
    have B4 := Lib.hid (bel2 B3.out b4)
    clear b4 B3 KV F2 O2
    go_wp2
    go_ret
    exact ⟨rfl, B4.out⟩
  · have HV := Lib.hid hv
    have HEL := Lib.hid (encV_len hv)
    have HDE := Lib.hid (decF_enc hv)
    clear hv
    go_wp2_with (first | (refine wpList_store28 _ _ zE e1 rfl rfl rfl rfl ?_; rw [← HV2.out]) | (refine wpList_load28 _ w2.heap.size e1 ?F rfl rfl rfl ?_; (case F => exact F2.out)))
    refine (kEn1 e1 V2 O2.out HV.out).mono ?_
    rintro r w3 ⟨rfl, b3⟩
    replace F2 := Lib.hid (F2.out.over b3)
    replace O2 := Lib.hid (O2.out.over b3)
    have B3 := Lib.hid (bel2 B2.out b3)
    clear b3 B2 HV2
    have KV := Lib.hid (kVa e1 w3 O2.out)
    rw [HV.out] at KV
    go_wp2_with (refine wpList_load28 _ w2.heap.size e1 ?F rfl rfl rfl ?_; (case F => exact F2.out))
    refine KV.out.mono ?_
    rintro r w4 ⟨rfl, b4⟩
    replace F2 := Lib.hid (F2.out.over b4)
    replace O2 := Lib.hid (O2.out.over b4)
    have B4 := Lib.hid (bel2 B3.out b4)
    clear b4 B3 KV
    have KD := Lib.hid (kDe ⟨(encV e1.f).toArray⟩ w4 (by rw [mk_size']; have := HEL.out; unfold maxLen; omega))
    rw [show (⟨(encV e1.f).toArray⟩ : ByteArray).data.toList = encV e1.f by simp, HDE.out] at KD
    go_wp2_with fail
    refine KD.out.mono ?_
    rintro r w5 ⟨e2, rfl, hf2, in2, b5⟩
    obtain ⟨V5, hV5⟩ : ∃ V5, V5 = w5.alloc (.cells #[.int .i64 e2.f.n, .int .i64 e2.f.tm, .int .i64 e2.f.kd, .int .i64 e2.f.st, .string ⟨e2.f.lg.toArray⟩, .int .i64 e2.f.rv, .int .i64 e2.f.bs, .string ⟨e2.f.ti.toArray⟩, .string ⟨e2.f.au.toArray⟩, .slice e2.ta e2.tn e2.tc, .slice e2.ba e2.bn e2.bc, .int .i64 e2.f.lb.u, .slice e2.la e2.ln e2.lc, .int .i64 e2.f.lb.ap, .int .i64 e2.f.lb.d, .int .i64 e2.f.ed, .int .i64 e2.f.bk, .int .i64 e2.f.se, .string ⟨e2.f.tx.toArray⟩, .string ⟨e2.f.nm.toArray⟩, .int .i64 e2.f.pt, .int .i64 e2.f.cl, .int .i64 e2.f.un] 28) := ⟨_, rfl⟩
    have b5' : Below w4.heap.size w4 V5 := by rw [hV5]; exact bel2 b5 (below_alloc w5 _)
    have F5 : Hid (FcAt V5 w5.heap.size e2) := Lib.hid (by rw [hV5]; exact new_fact w5 e2)
    have O5 : Hid (FeOk V5 e2) := Lib.hid (by rw [hV5]; exact in2.ok.over (below_alloc w5 _))
    have B5 := Lib.hid (bel2 B4.out b5')
    replace F2 := Lib.hid (F2.out.over b5')
    replace O2 := Lib.hid (O2.out.over b5')
    have KS := Lib.hid (kSt e1 e2 V5 O2.out O5.out true (by rw [hf2]; exact sF_self _))
    have HV5 := Lib.hid hV5
    clear hV5 b5' b5 in2 hf2 B4 KD O2 O5
    go_wp2_with (first | (refine wpList_store28 _ _ zE e2 rfl rfl rfl rfl ?_; rw [← HV5.out]) | (refine wpList_load28g _ w2.heap.size e1 ?F (by kernel_rfl) rfl rfl ?_; (case F => exact F2.out)) | (refine wpList_load28g _ w5.heap.size e2 ?F (by kernel_rfl) rfl rfl ?_; (case F => exact F5.out)))
    refine KS.out.mono ?_
    rintro r w6 ⟨rfl, b6⟩
    have B6 := Lib.hid (bel2 B5.out b6)
    clear b6 B5 KS F2 F5
    go_wp2
    go_ret
    exact ⟨rfl, B6.out⟩
end Go.Proofs.YtlhcckjfgpcohaaGreatDoor
