/- FactUnique: the walk of the statement's text. -/
import Derived.Test.YtlhcckjfgpcohaaGreatDoorU5
namespace Go.Proofs.YtlhcckjfgpcohaaGreatDoor
open Go.RowKit Go.MapKept
set_option maxRecDepth 100000
set_option linter.unusedSimpArgs false
set_option linter.unusedVariables false
theorem kS0 (e : FE) (W : World) (h : FeOk W e) (hf : e.f = zF) : Calls Tryz.prog 15 #[.agg #[.int .i64 e.f.n, .int .i64 e.f.tm, .int .i64 e.f.kd, .int .i64 e.f.st, .string ⟨e.f.lg.toArray⟩, .int .i64 e.f.rv, .int .i64 e.f.bs, .string ⟨e.f.ti.toArray⟩, .string ⟨e.f.au.toArray⟩, .slice e.ta e.tn e.tc, .slice e.ba e.bn e.bc, .int .i64 e.f.lb.u, .slice e.la e.ln e.lc, .int .i64 e.f.lb.ap, .int .i64 e.f.lb.d, .int .i64 e.f.ed, .int .i64 e.f.bk, .int .i64 e.f.se, .string ⟨e.f.tx.toArray⟩, .string ⟨e.f.nm.toArray⟩, .int .i64 e.f.pt, .int .i64 e.f.cl, .int .i64 e.f.un], .agg #[.int .i64 0, .int .i64 0, .int .i64 0, .int .i64 0, .string ⟨#[]⟩, .int .i64 0, .int .i64 0, .string ⟨#[]⟩, .string ⟨#[]⟩, .slice none 0 0, .slice none 0 0, .int .i64 0, .slice none 0 0, .int .i64 0, .int .i64 0, .int .i64 0, .int .i64 0, .int .i64 0, .string ⟨#[]⟩, .string ⟨#[]⟩, .int .i64 0, .int .i64 0, .int .i64 0]] W fun r w' => r = .returned (.bool true) ∧ Below W.heap.size W w' := by
  have k := same5 e zE W h (zE_ok W)
  rw [hf, show zE.f = zF from rfl, sF_self] at k
  exact k
set_option maxHeartbeats 16000000 in
theorem unique5 (s : ByteArray) (w : World) (hs : s.size ≤ maxLen) : Calls Tryz.prog 4 #[.string s] w fun r w' => r = .returned (.bool true) ∧ Below w.heap.size w w' := by
  have hsm : s.size ≤ 9223372036854775807 := by unfold maxLen at hs; omega
  obtain ⟨j, hj, hjs, hj4⟩ : ∃ j : Nat, min (s.size : Int) 4000 = (j : Int) ∧ j ≤ s.size ∧ j ≤ 4000 := by
    by_cases q : s.size ≤ 4000
    · exact ⟨s.size, by omega, Nat.le_refl _, q⟩
    · exact ⟨4000, by omega, by omega, Nat.le_refl _⟩
  obtain ⟨t, ht⟩ : ∃ t, s.extract 0 j = t := ⟨_, rfl⟩
  have hts : t.size ≤ 4000 := by rw [← ht, ByteArray.size_extract]; omega
  have KD := Lib.hid (fun W => kDe t W (by unfold maxLen; omega))
  have HERR := Lib.hid (fun h => decF_err t.data.toList h)
  have HENC := Lib.hid (fun h => encF_dec (s := t.data.toList) h)
  obtain ⟨df, de, HD⟩ : ∃ df de, Hid (decF t.data.toList = (df, de)) := ⟨_, _, Lib.hid rfl⟩
  rw [HD.out] at KD HERR HENC
  simp only at KD HERR HENC
  by_cases he : de = 0
  · subst he
    obtain ⟨hv, hen⟩ := HENC.out rfl
    have HV := Lib.hid hv
    have HEN : Hid ((⟨(encV df).toArray⟩ : ByteArray) = t) := Lib.hid (by rw [hen])
    clear hv hen HERR HENC hts
    go_enter Tryz.func4, Tryz.ntmps4
    go_wp2_with fail
    refine (sane5 w).mono ?_
    rintro r w1 ⟨rfl, b1⟩
    have B1 := Lib.hid b1
    clear b1
    go_wp2_with fail
    refine (KD.out w1).mono ?_
    rintro r w2 ⟨e1, rfl, hf, hin, b2⟩
    obtain ⟨V2, hV2⟩ : ∃ V2, V2 = w2.alloc (.cells #[.int .i64 e1.f.n, .int .i64 e1.f.tm, .int .i64 e1.f.kd, .int .i64 e1.f.st, .string ⟨e1.f.lg.toArray⟩, .int .i64 e1.f.rv, .int .i64 e1.f.bs, .string ⟨e1.f.ti.toArray⟩, .string ⟨e1.f.au.toArray⟩, .slice e1.ta e1.tn e1.tc, .slice e1.ba e1.bn e1.bc, .int .i64 e1.f.lb.u, .slice e1.la e1.ln e1.lc, .int .i64 e1.f.lb.ap, .int .i64 e1.f.lb.d, .int .i64 e1.f.ed, .int .i64 e1.f.bk, .int .i64 e1.f.se, .string ⟨e1.f.tx.toArray⟩, .string ⟨e1.f.nm.toArray⟩, .int .i64 e1.f.pt, .int .i64 e1.f.cl, .int .i64 e1.f.un] 28) := ⟨_, rfl⟩
    have F2 : Hid (FcAt V2 w2.heap.size e1) := Lib.hid (by rw [hV2]; exact new_fact w2 e1)
    have O2 : Hid (FeOk V2 e1) := Lib.hid (by rw [hV2]; exact hin.ok.over (below_alloc w2 _))
    have B2 : Hid (Below w.heap.size w V2) := Lib.hid (by rw [hV2]; exact bel2 (bel2 B1.out b2) (below_alloc w2 _))
    have HV2 := Lib.hid hV2
    have KE := Lib.hid (kEt e1 V2 O2.out (by rw [hf]; exact HV.out) t (by rw [hf]; exact HEN.out))
    have HF := Lib.hid hf
    clear hV2 hin b2 B1 KD hf
    go_wp2_with (first | (refine wpList_store28 _ _ zE e1 rfl rfl rfl rfl ?_; rw [← HV2.out]) | (refine wpList_load28 _ w2.heap.size e1 ?F rfl rfl rfl ?_; (case F => exact F2.out)))
    refine KE.out.mono ?_
    rintro r w3 ⟨rfl, b3⟩
    replace F2 := Lib.hid (F2.out.over b3)
    have KV := Lib.hid (kVt e1 w3 (O2.out.over b3) true (by rw [HF.out]; exact HV.out))
    have B3 := Lib.hid (bel2 B2.out b3)
    clear b3 B2 HV2 KE O2
    go_wp2_with (refine wpList_load28g _ w2.heap.size e1 ?F (by kernel_rfl) rfl rfl ?_; (case F => exact F2.out))
    refine KV.out.mono ?_
    rintro r w4 ⟨rfl, b4⟩
    have B4 := Lib.hid (bel2 B3.out b4)
    clear b4 B3 KV F2
    go_wp2
    go_ret
    exact ⟨rfl, B4.out⟩
  · obtain ⟨hz, h2⟩ := HERR.out he
    have HZ := Lib.hid hz
    clear hz HERR HENC hts
    rcases h2 with rfl | rfl
    all_goals
      go_enter Tryz.func4, Tryz.ntmps4
      go_wp2_with fail
      refine (sane5 w).mono ?_
      rintro r w1 ⟨rfl, b1⟩
      have B1 := Lib.hid b1
      clear b1
      go_wp2_with fail
      refine (KD.out w1).mono ?_
      rintro r w2 ⟨e1, rfl, hf, hin, b2⟩
      obtain ⟨V2, hV2⟩ : ∃ V2, V2 = w2.alloc (.cells #[.int .i64 e1.f.n, .int .i64 e1.f.tm, .int .i64 e1.f.kd, .int .i64 e1.f.st, .string ⟨e1.f.lg.toArray⟩, .int .i64 e1.f.rv, .int .i64 e1.f.bs, .string ⟨e1.f.ti.toArray⟩, .string ⟨e1.f.au.toArray⟩, .slice e1.ta e1.tn e1.tc, .slice e1.ba e1.bn e1.bc, .int .i64 e1.f.lb.u, .slice e1.la e1.ln e1.lc, .int .i64 e1.f.lb.ap, .int .i64 e1.f.lb.d, .int .i64 e1.f.ed, .int .i64 e1.f.bk, .int .i64 e1.f.se, .string ⟨e1.f.tx.toArray⟩, .string ⟨e1.f.nm.toArray⟩, .int .i64 e1.f.pt, .int .i64 e1.f.cl, .int .i64 e1.f.un] 28) := ⟨_, rfl⟩
      have F2 : Hid (FcAt V2 w2.heap.size e1) := Lib.hid (by rw [hV2]; exact new_fact w2 e1)
      have O2 : Hid (FeOk V2 e1) := Lib.hid (by rw [hV2]; exact hin.ok.over (below_alloc w2 _))
      have B2 : Hid (Below w.heap.size w V2) := Lib.hid (by rw [hV2]; exact bel2 (bel2 B1.out b2) (below_alloc w2 _))
      have HV2 := Lib.hid hV2
      have KS := Lib.hid (kS0 e1 V2 O2.out (by rw [hf]; exact HZ.out))
      clear hV2 hin b2 B1 KD hf O2
      go_wp2_with (first | (refine wpList_store28 _ _ zE e1 rfl rfl rfl rfl ?_; rw [← HV2.out]) | (refine wpList_load28g _ w2.heap.size e1 ?F (by kernel_rfl) rfl rfl ?_; (case F => exact F2.out)))
      refine KS.out.mono ?_
      rintro r w3 ⟨rfl, b3⟩
      have B3 := Lib.hid (bel2 B2.out b3)
      clear b3 B2 KS F2 HV2
      go_wp2
      go_ret
      exact ⟨rfl, B3.out⟩
end Go.Proofs.YtlhcckjfgpcohaaGreatDoor
