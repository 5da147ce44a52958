/- FactRedact: the walk of the statement's text. -/
import Derived.Test.YtlhcckjfgpcohaaGreatDoorU5
import Derived.Test.YtlhcckjfgpcohaaGreatDoorU3
import Derived.Deep.RegionHeld3
import Derived.Deep.DeepCutAuto
namespace Go.Proofs.YtlhcckjfgpcohaaGreatDoor
open Go.RowKit Go.MapKept
set_option maxRecDepth 100000
set_option linter.unusedSimpArgs false
set_option linter.unusedVariables false
theorem yields_load28 {ops : Array Oper} {o : Oper} {a : Act} {S : World → Prop} (x : Operand) (B : Nat) (e : FE) (hS : ∀ w, S w → FcAt w B e) (hw : Region.wanted o (yielded ops a.tmps) = true) (ho : o.op = .load 28 x)
    (hx : a.eval x = .pointer (some ⟨B, 0, none⟩)) : YieldsIf Tryz.prog ops S o (aggF e) a :=
  .inl ⟨hw, fun w h => by
    have hr := run_loadVar_row w B 28 28 (elF e).toArray (0, 0) _ (hS w h) Tryz.underlying28 rfl (by kernel_rfl)
    unfold execOp
    simp only [ho, hx, Instr.loadAt, Instr.sureAddr, Sem.run_bind, Sem.run_pure, Result.andThen_ok, hr]
    rfl⟩
theorem aS (e d : FE) (W : World) (h : FeOk W e) (k : FeOk W d) (b : Bool) (hb : sF e.f d.f = b) : Calls Tryz.prog 15 #[aggF e, aggF d] W fun r w' => r = .returned (.bool b) ∧ Below W.heap.size W w' := by
  subst hb
  exact same5 e d W h k
theorem aV (e : FE) (W : World) (h : FeOk W e) (b : Bool) (hb : vF e.f = b) : Calls Tryz.prog 13 #[aggF e] W fun r w' => r = .returned (.bool b) ∧ Below W.heap.size W w' := by
  subst hb
  exact valid5 e W h
def smF (f : Fct) : Prop := f.tp.length ≤ 6 ∧ f.bl.length ≤ 26 ∧ f.lb.af.length ≤ 70 ∧ ∀ b ∈ f.bl, b.lb.af.length ≤ 70 ∧ b.tx.length ≤ 400
theorem smF_few (f : Fct) : smF (fewF f) := by
  refine ⟨by simp [fewF]; omega, by simp [fewF]; omega, by simp [fewF, fewL]; omega, ?_⟩
  intro b hb
  simp only [fewF, List.mem_map] at hb
  obtain ⟨b0, _, rfl⟩ := hb
  simp [fewB, fewL]
  omega
theorem smF_red {f : Fct} (h : smF f) : smF (redF f) := by
  unfold redF
  split
  · refine ⟨by simp [goneF, zF], by simp [goneF, zF], by simp [goneF, zF, zeroL], ?_⟩
    intro b hb
    simp [goneF, zF] at hb
  · exact h
theorem sm_of {w : World} {e : FE} (h : FeOk w e) (hs : smF e.f) : FeSm e := by
  obtain ⟨h1, ⟨es, hes, hbl⟩, h3, -, -⟩ := h
  obtain ⟨t1, t2, t3, t4⟩ := hs
  have n1 := h1.1
  have n2 := hbl.1
  have n3 := h3.1.1
  have n4 : es.length = e.f.bl.length := by rw [← hes]; simp [blks]
  refine ⟨⟨by omega, by omega, by omega⟩, ?_⟩
  intro b hb
  have := t4 b hb
  omega
/-- The second fact with the first one's number, time and story. -/
def likeE (e d : FE) : FE := { d with f := { d.f with n := e.f.n, tm := e.f.tm, st := e.f.st } }
theorem likeE_ok {w : World} {e d : FE} (h : FeOk w e) (k : FeOk w d) : FeOk w (likeE e d) := by
  obtain ⟨o1, o2, o3, ⟨i1, i2, i3, i4, i5, i6, i7, i8, i9, i10, i11, i12⟩, s⟩ := k
  obtain ⟨_, _, _, ⟨j1, j2, j3, j4, _⟩, _⟩ := h
  exact ⟨o1, o2, o3, ⟨j1, j2, i3, j4, i5, i6, i7, i8, i9, i10, i11, i12⟩, s⟩
theorem like_gone {e d : FE} (h1 : cutB e.f = true) (h2 : cutB (likeE e d).f = true) : redF e.f = redF (likeE e d).f := by
  unfold redF
  rw [if_pos h1, if_pos h2]
  rfl
theorem FcAt.like {W : World} {B : Nat} {e d : FE} (h : FcAt W B d) : FcAt (((W.setCell ⟨B, 0, none⟩ (.int .i64 e.f.n)).setCell ⟨B, 1, none⟩ (.int .i64 e.f.tm)).setCell ⟨B, 3, none⟩ (.int .i64 e.f.st)) B (likeE e d) :=
  ((h.set 0 _ (e' := { d with f := { d.f with n := e.f.n } }) rfl).set 1 _ (e' := { d with f := { d.f with n := e.f.n, tm := e.f.tm } }) rfl).set 3 _ rfl
theorem gone_no {w : World} {x : FE} {f : Fct} (h : FeOk w x) (hf : x.f = goneF f) : x.bn = 0 := by
  obtain ⟨-, ⟨es, hes, hbl⟩, -⟩ := h
  have n2 := hbl.1
  have n4 : es.length = x.f.bl.length := by rw [← hes]; simp [blks]
  rw [hf] at n4
  simp [goneF, zF] at n4
  rw [← n2, n4]
  rfl
set_option maxHeartbeats 64000000 in
theorem redactL5 (e d : FE) (w : World) (h : FeOk w e) (k : FeOk w d) : Calls Tryz.prog 8 #[aggF e, aggF d] w fun r w' => r = .returned (.bool true) ∧ Below w.heap.size w w' := by
  obtain ⟨V0, hV0⟩ : ∃ V0, V0 = (w.alloc (.cells #[.int .i64 e.f.n, .int .i64 e.f.tm, .int .i64 e.f.kd, .int .i64 e.f.st, .string ⟨e.f.lg.toArray⟩, .int .i64 e.f.rv, .int .i64 e.f.bs, .string ⟨e.f.ti.toArray⟩, .string ⟨e.f.au.toArray⟩, .slice e.ta e.tn e.tc, .slice e.ba e.bn e.bc, .int .i64 e.f.lb.u, .slice e.la e.ln e.lc, .int .i64 e.f.lb.ap, .int .i64 e.f.lb.d, .int .i64 e.f.ed, .int .i64 e.f.bk, .int .i64 e.f.se, .string ⟨e.f.tx.toArray⟩, .string ⟨e.f.nm.toArray⟩, .int .i64 e.f.pt, .int .i64 e.f.cl, .int .i64 e.f.un] 28)).alloc (.cells #[.int .i64 d.f.n, .int .i64 d.f.tm, .int .i64 d.f.kd, .int .i64 d.f.st, .string ⟨d.f.lg.toArray⟩, .int .i64 d.f.rv, .int .i64 d.f.bs, .string ⟨d.f.ti.toArray⟩, .string ⟨d.f.au.toArray⟩, .slice d.ta d.tn d.tc, .slice d.ba d.bn d.bc, .int .i64 d.f.lb.u, .slice d.la d.ln d.lc, .int .i64 d.f.lb.ap, .int .i64 d.f.lb.d, .int .i64 d.f.ed, .int .i64 d.f.bk, .int .i64 d.f.se, .string ⟨d.f.tx.toArray⟩, .string ⟨d.f.nm.toArray⟩, .int .i64 d.f.pt, .int .i64 d.f.cl, .int .i64 d.f.un] 28) := ⟨_, rfl⟩
  have F0 : Hid (FcAt V0 w.heap.size e) := Lib.hid (by rw [hV0]; exact (new_fact w e).over (below_alloc _ _))
  have F1 : Hid (FcAt V0 (w.heap.size + 1) d) := Lib.hid (by
    rw [hV0]
    have := new_fact (w.alloc (.cells #[.int .i64 e.f.n, .int .i64 e.f.tm, .int .i64 e.f.kd, .int .i64 e.f.st, .string ⟨e.f.lg.toArray⟩, .int .i64 e.f.rv, .int .i64 e.f.bs, .string ⟨e.f.ti.toArray⟩, .string ⟨e.f.au.toArray⟩, .slice e.ta e.tn e.tc, .slice e.ba e.bn e.bc, .int .i64 e.f.lb.u, .slice e.la e.ln e.lc, .int .i64 e.f.lb.ap, .int .i64 e.f.lb.d, .int .i64 e.f.ed, .int .i64 e.f.bk, .int .i64 e.f.se, .string ⟨e.f.tx.toArray⟩, .string ⟨e.f.nm.toArray⟩, .int .i64 e.f.pt, .int .i64 e.f.cl, .int .i64 e.f.un] 28)) d
    rwa [show (w.alloc (.cells #[.int .i64 e.f.n, .int .i64 e.f.tm, .int .i64 e.f.kd, .int .i64 e.f.st, .string ⟨e.f.lg.toArray⟩, .int .i64 e.f.rv, .int .i64 e.f.bs, .string ⟨e.f.ti.toArray⟩, .string ⟨e.f.au.toArray⟩, .slice e.ta e.tn e.tc, .slice e.ba e.bn e.bc, .int .i64 e.f.lb.u, .slice e.la e.ln e.lc, .int .i64 e.f.lb.ap, .int .i64 e.f.lb.d, .int .i64 e.f.ed, .int .i64 e.f.bk, .int .i64 e.f.se, .string ⟨e.f.tx.toArray⟩, .string ⟨e.f.nm.toArray⟩, .int .i64 e.f.pt, .int .i64 e.f.cl, .int .i64 e.f.un] 28)).heap.size = w.heap.size + 1 by simp] at this)
  have BB : Hid (Below w.heap.size w V0) := Lib.hid (by rw [hV0]; exact bel2 (below_alloc w _) (below_alloc _ _))
  have O0 : Hid (FeOk V0 e) := Lib.hid (h.over BB.out)
  have O1 : Hid (FeOk V0 d) := Lib.hid (k.over BB.out)
  have HV0 := Lib.hid hV0
  clear hV0 h k
  show Calls _ _ #[.agg #[.int .i64 e.f.n, .int .i64 e.f.tm, .int .i64 e.f.kd, .int .i64 e.f.st, .string ⟨e.f.lg.toArray⟩, .int .i64 e.f.rv, .int .i64 e.f.bs, .string ⟨e.f.ti.toArray⟩, .string ⟨e.f.au.toArray⟩, .slice e.ta e.tn e.tc, .slice e.ba e.bn e.bc, .int .i64 e.f.lb.u, .slice e.la e.ln e.lc, .int .i64 e.f.lb.ap, .int .i64 e.f.lb.d, .int .i64 e.f.ed, .int .i64 e.f.bk, .int .i64 e.f.se, .string ⟨e.f.tx.toArray⟩, .string ⟨e.f.nm.toArray⟩, .int .i64 e.f.pt, .int .i64 e.f.cl, .int .i64 e.f.un], .agg #[.int .i64 d.f.n, .int .i64 d.f.tm, .int .i64 d.f.kd, .int .i64 d.f.st, .string ⟨d.f.lg.toArray⟩, .int .i64 d.f.rv, .int .i64 d.f.bs, .string ⟨d.f.ti.toArray⟩, .string ⟨d.f.au.toArray⟩, .slice d.ta d.tn d.tc, .slice d.ba d.bn d.bc, .int .i64 d.f.lb.u, .slice d.la d.ln d.lc, .int .i64 d.f.lb.ap, .int .i64 d.f.lb.d, .int .i64 d.f.ed, .int .i64 d.f.bk, .int .i64 d.f.se, .string ⟨d.f.tx.toArray⟩, .string ⟨d.f.nm.toArray⟩, .int .i64 d.f.pt, .int .i64 d.f.cl, .int .i64 d.f.un]] w _
  go_enter Tryz.func8, Tryz.ntmps8
  go_wp2_with fail
  rw [← HV0.out]
  refine (sane5 V0).mono ?_
  rintro r w1 ⟨rfl, b1⟩
  replace F0 := Lib.hid (F0.out.over b1)
  replace F1 := Lib.hid (F1.out.over b1)
  replace O0 := Lib.hid (O0.out.over b1)
  replace O1 := Lib.hid (O1.out.over b1)
  replace BB := Lib.hid (bel2 BB.out b1)
  clear b1 HV0
  go_wp2_with (refine wpList_load28 _ w.heap.size e ?F rfl rfl rfl ?_; (case F => exact F0.out))
  refine (kF e w1 O0.out).mono ?_
  rintro r w2 ⟨e1, rfl, hf1, ok1, b2⟩
  have SM1 : Hid (smF e1.f) := Lib.hid (by rw [hf1]; exact smF_few _)
  obtain ⟨V2, hV2⟩ : ∃ V2, V2 = w2.alloc (.cells #[.int .i64 e1.f.n, .int .i64 e1.f.tm, .int .i64 e1.f.kd, .int .i64 e1.f.st, .string ⟨e1.f.lg.toArray⟩, .int .i64 e1.f.rv, .int .i64 e1.f.bs, .string ⟨e1.f.ti.toArray⟩, .string ⟨e1.f.au.toArray⟩, .slice e1.ta e1.tn e1.tc, .slice e1.ba e1.bn e1.bc, .int .i64 e1.f.lb.u, .slice e1.la e1.ln e1.lc, .int .i64 e1.f.lb.ap, .int .i64 e1.f.lb.d, .int .i64 e1.f.ed, .int .i64 e1.f.bk, .int .i64 e1.f.se, .string ⟨e1.f.tx.toArray⟩, .string ⟨e1.f.nm.toArray⟩, .int .i64 e1.f.pt, .int .i64 e1.f.cl, .int .i64 e1.f.un] 28) := ⟨_, rfl⟩
  have b2' : Below w1.heap.size w1 V2 := by rw [hV2]; exact bel2 b2 (below_alloc w2 _)
  have F6 : Hid (FcAt V2 w2.heap.size e1) := Lib.hid (by rw [hV2]; exact new_fact w2 e1)
  have O6 : Hid (FeOk V2 e1) := Lib.hid (by rw [hV2]; exact ok1.over (below_alloc w2 _))
  have L6 : Hid (w2.heap.size < V2.heap.size) := Lib.hid (Array.getElem?_eq_some_iff.1 F6.out).1
  replace F1 := Lib.hid (F1.out.over b2')
  replace O1 := Lib.hid (O1.out.over b2')
  replace BB := Lib.hid (bel2 BB.out b2')
  have HV2 := Lib.hid hV2
  clear hV2 ok1 hf1 b2 b2' F0 O0
  go_wp2_with (first | (refine wpList_store28 _ _ zE e1 rfl rfl rfl rfl ?_; rw [← HV2.out]) | (refine wpList_load28 _ (w.heap.size + 1) d ?F rfl rfl rfl ?_; (case F => exact F1.out)))
  refine (kF d V2 O1.out).mono ?_
  rintro r w3 ⟨d1, rfl, hf3, ok3, b3⟩
  have SM3 : Hid (smF d1.f) := Lib.hid (by rw [hf3]; exact smF_few _)
  obtain ⟨V3, hV3⟩ : ∃ V3, V3 = w3.alloc (.cells #[.int .i64 d1.f.n, .int .i64 d1.f.tm, .int .i64 d1.f.kd, .int .i64 d1.f.st, .string ⟨d1.f.lg.toArray⟩, .int .i64 d1.f.rv, .int .i64 d1.f.bs, .string ⟨d1.f.ti.toArray⟩, .string ⟨d1.f.au.toArray⟩, .slice d1.ta d1.tn d1.tc, .slice d1.ba d1.bn d1.bc, .int .i64 d1.f.lb.u, .slice d1.la d1.ln d1.lc, .int .i64 d1.f.lb.ap, .int .i64 d1.f.lb.d, .int .i64 d1.f.ed, .int .i64 d1.f.bk, .int .i64 d1.f.se, .string ⟨d1.f.tx.toArray⟩, .string ⟨d1.f.nm.toArray⟩, .int .i64 d1.f.pt, .int .i64 d1.f.cl, .int .i64 d1.f.un] 28) := ⟨_, rfl⟩
  have b3' : Below V2.heap.size V2 V3 := by rw [hV3]; exact bel2 b3 (below_alloc w3 _)
  have hlt : w2.heap.size < w3.heap.size := Nat.lt_of_lt_of_le L6.out b3.size
  have F7 : FcAt V3 w3.heap.size d1 := by rw [hV3]; exact new_fact w3 d1
  replace F6 := Lib.hid (F6.out.over b3')
  obtain ⟨V4, hV4⟩ : ∃ V4, V4 = (((V3.setCell ⟨w3.heap.size, 0, none⟩ (.int .i64 e1.f.n)).setCell ⟨w3.heap.size, 1, none⟩ (.int .i64 e1.f.tm)).setCell ⟨w3.heap.size, 3, none⟩ (.int .i64 e1.f.st)) := ⟨_, rfl⟩
  have K4 : Kp (fun j => j = w3.heap.size) V3 V4 := by
    rw [hV4]
    exact Kp.setCell (S := fun j => j = w3.heap.size) (Kp.setCell (S := fun j => j = w3.heap.size) (Kp.setCell (S := fun j => j = w3.heap.size) (Kp.refl _ _) rfl _ _) rfl _ _) rfl _ _
  have b34 : Below w3.heap.size w3 V4 := by
    have h1 : Below w3.heap.size V3 V4 := K4.below (by rw [hV3]; simp) (by rintro j rfl; exact Nat.le_refl _)
    rw [hV3] at h1
    exact (below_alloc w3 _).trans h1
  have b24 : Below V2.heap.size V2 V4 := b3'.trans (K4.below b3'.size (by rintro j rfl; exact b3.size))
  have O7 : Hid (FeOk V4 (likeE e1 d1)) := Lib.hid (likeE_ok (O6.out.over b24) (ok3.over b34))
  have F74 : Hid (FcAt V4 w3.heap.size (likeE e1 d1)) := Lib.hid (by rw [hV4]; exact F7.like)
  have F64 : Hid (FcAt V4 w2.heap.size e1) := Lib.hid (K4.heap F6.out (by omega))
  replace O6 := Lib.hid (O6.out.over b24)
  replace BB := Lib.hid (bel2 BB.out b24)
  have SM7 : Hid (smF (likeE e1 d1).f) := Lib.hid SM3.out
  have c60 : V3.cell? ⟨w2.heap.size, 0, none⟩ = some (.int .i64 e1.f.n) := F6.out.cell 0
  have G1 := F6.out.other (g := w3.heap.size) (o := 0) (v := .int .i64 e1.f.n) (by omega)
  have c61 : (V3.setCell ⟨w3.heap.size, 0, none⟩ (.int .i64 e1.f.n)).cell? ⟨w2.heap.size, 1, none⟩ = some (.int .i64 e1.f.tm) := G1.cell 1
  have G2 := G1.other (g := w3.heap.size) (o := 1) (v := .int .i64 e1.f.tm) (by omega)
  have c63 : ((V3.setCell ⟨w3.heap.size, 0, none⟩ (.int .i64 e1.f.n)).setCell ⟨w3.heap.size, 1, none⟩ (.int .i64 e1.f.tm)).cell? ⟨w2.heap.size, 3, none⟩ = some (.int .i64 e1.f.st) := G2.cell 3
  have c70 : V3.cell? ⟨w3.heap.size, 0, none⟩ = some (.int .i64 d1.f.n) := F7.cell 0
  have f70 := Joins.unfrozen_of_block F7 0
  have F71 := F7.set 0 (.int .i64 e1.f.n) (e' := { d1 with f := { d1.f with n := e1.f.n } }) rfl
  have c71 : (V3.setCell ⟨w3.heap.size, 0, none⟩ (.int .i64 e1.f.n)).cell? ⟨w3.heap.size, 1, none⟩ = some (.int .i64 d1.f.tm) := F71.cell 1
  have f71 := Joins.unfrozen_of_block F71 1
  have F72 := F71.set 1 (.int .i64 e1.f.tm) (e' := { d1 with f := { d1.f with n := e1.f.n, tm := e1.f.tm } }) rfl
  have c73 : ((V3.setCell ⟨w3.heap.size, 0, none⟩ (.int .i64 e1.f.n)).setCell ⟨w3.heap.size, 1, none⟩ (.int .i64 e1.f.tm)).cell? ⟨w3.heap.size, 3, none⟩ = some (.int .i64 d1.f.st) := F72.cell 3
  have f73 := Joins.unfrozen_of_block F72 3
  have HV3 := Lib.hid hV3
  have HV4 := Lib.hid hV4
  obtain ⟨d2, hd2⟩ : ∃ d2, d2 = likeE e1 d1 := ⟨_, rfl⟩
  have HLG := Lib.hid (fun h1 h2 => like_gone (e := e1) (d := d1) h1 h2)
  rw [← hd2] at O7 F74 SM7 HLG
  clear hV3 hV4 b3 b3' ok3 hf3 F1 O1 HV2 L6 F7 F6 K4 b34 b24 SM3 G1 G2 F71 F72 hd2
  go_wp2_with (first | (refine wpList_store28 _ _ zE d1 rfl rfl rfl rfl ?_; rw [← HV3.out]) | (rw [← HV4.out]; refine wpList_load28 _ w2.heap.size e1 ?F rfl rfl rfl ?_; (case F => exact F64.out)))
  clear c60 c61 c63 c70 f70 c71 f71 c73 f73 HV3 HV4
  have F6 := F64
  have F7 := F74
  clear F64 F74 hlt
  refine (kRe e1 _ O6.out (sm_of O6.out SM1.out)).mono ?_
  rintro r w5 ⟨x, rfl, hx, ok5, b5⟩
  obtain ⟨V5, hV5⟩ : ∃ V5, V5 = w5.alloc (.cells #[.int .i64 x.f.n, .int .i64 x.f.tm, .int .i64 x.f.kd, .int .i64 x.f.st, .string ⟨x.f.lg.toArray⟩, .int .i64 x.f.rv, .int .i64 x.f.bs, .string ⟨x.f.ti.toArray⟩, .string ⟨x.f.au.toArray⟩, .slice x.ta x.tn x.tc, .slice x.ba x.bn x.bc, .int .i64 x.f.lb.u, .slice x.la x.ln x.lc, .int .i64 x.f.lb.ap, .int .i64 x.f.lb.d, .int .i64 x.f.ed, .int .i64 x.f.bk, .int .i64 x.f.se, .string ⟨x.f.tx.toArray⟩, .string ⟨x.f.nm.toArray⟩, .int .i64 x.f.pt, .int .i64 x.f.cl, .int .i64 x.f.un] 28) := ⟨_, rfl⟩
  have b5' : Below V4.heap.size V4 V5 := by rw [hV5]; exact bel2 b5 (below_alloc w5 _)
  have F8 : Hid (FcAt V5 w5.heap.size x) := Lib.hid (by rw [hV5]; exact new_fact w5 x)
  have O8 : Hid (FeOk V5 x) := Lib.hid (by rw [hV5]; exact ok5.ok.over (below_alloc w5 _))
  have SM8 : Hid (smF x.f) := Lib.hid (by rw [hx]; exact smF_red SM1.out)
  have HX := Lib.hid hx
  replace F6 := Lib.hid (F6.out.over b5')
  replace F7 := Lib.hid (F7.out.over b5')
  replace O6 := Lib.hid (O6.out.over b5')
  replace O7 := Lib.hid (O7.out.over b5')
  replace BB := Lib.hid (bel2 BB.out b5')
  have HV5 := Lib.hid hV5
  clear hV5 b5 b5' ok5 hx
  go_wp2_with (first | (refine wpList_store28 _ _ zE x rfl rfl rfl rfl ?_; rw [← HV5.out]) | (refine wpList_load28 _ w3.heap.size d2 ?F rfl rfl rfl ?_; (case F => exact F7.out)))
  refine (kRe d2 _ O7.out (sm_of O7.out SM7.out)).mono ?_
  rintro r w6 ⟨y, rfl, hy, ok6, b6⟩
  obtain ⟨V6, hV6⟩ : ∃ V6, V6 = w6.alloc (.cells #[.int .i64 y.f.n, .int .i64 y.f.tm, .int .i64 y.f.kd, .int .i64 y.f.st, .string ⟨y.f.lg.toArray⟩, .int .i64 y.f.rv, .int .i64 y.f.bs, .string ⟨y.f.ti.toArray⟩, .string ⟨y.f.au.toArray⟩, .slice y.ta y.tn y.tc, .slice y.ba y.bn y.bc, .int .i64 y.f.lb.u, .slice y.la y.ln y.lc, .int .i64 y.f.lb.ap, .int .i64 y.f.lb.d, .int .i64 y.f.ed, .int .i64 y.f.bk, .int .i64 y.f.se, .string ⟨y.f.tx.toArray⟩, .string ⟨y.f.nm.toArray⟩, .int .i64 y.f.pt, .int .i64 y.f.cl, .int .i64 y.f.un] 28) := ⟨_, rfl⟩
  have b6' : Below V5.heap.size V5 V6 := by rw [hV6]; exact bel2 b6 (below_alloc w6 _)
  have F9 : Hid (FcAt V6 w6.heap.size y) := Lib.hid (by rw [hV6]; exact new_fact w6 y)
  have O9 : Hid (FeOk V6 y) := Lib.hid (by rw [hV6]; exact ok6.ok.over (below_alloc w6 _))
  have HY := Lib.hid hy
  replace F6 := Lib.hid (F6.out.over b6')
  replace F7 := Lib.hid (F7.out.over b6')
  replace F8 := Lib.hid (F8.out.over b6')
  replace O6 := Lib.hid (O6.out.over b6')
  replace O8 := Lib.hid (O8.out.over b6')
  replace BB := Lib.hid (bel2 BB.out b6')
  have HV6 := Lib.hid hV6
  clear hV6 b6 b6' ok6 hy HV5 O7 SM7
  obtain ⟨one, HONE⟩ : ∃ b, Hid (cutB e1.f = b) := ⟨_, Lib.hid rfl⟩
  obtain ⟨two, HTWO⟩ : ∃ b, Hid (cutB d2.f = b) := ⟨_, Lib.hid rfl⟩
  have ck6 : V6.cell? ⟨w2.heap.size, 2, none⟩ = some (.int .i64 e1.f.kd) := F6.out.cell 2
  have ck7 : V6.cell? ⟨w3.heap.size, 2, none⟩ = some (.int .i64 d2.f.kd) := F7.out.cell 2
  clear F7
  go_upto_region 9 with (refine wpList_store28 _ _ zE y rfl rfl rfl rfl ?_; rw [← HV6.out])
  clear HV6
  simp only [List.getElem_toArray, List.getElem_cons_succ, List.getElem_cons_zero, Act.put, List.setIfInBounds_toArray, List.set_cons_zero, List.set_cons_succ]
  go_cut [10] (fun s10 wx => s10 = .bool one ∧ V6 = wx)
  case first =>
    by_cases k1 : e1.f.kd = 1
    · have k1b : (e1.f.kd == 1) = true := by simp [k1]
      go_wp2_with fail
      go_meet
      exact ⟨by rw [← HONE.out]; simp [cutB, k1], rfl⟩
    · have k1b : (e1.f.kd == 1) = false := by simp [k1]
      by_cases k4 : e1.f.kd = 4
      · have k4b : (e1.f.kd == 4) = true := by simp [k4]
        go_wp2_with fail
        go_meet
        exact ⟨by rw [← HONE.out]; simp [cutB, k4], rfl⟩
      · have k4b : (e1.f.kd == 4) = false := by simp [k4]
        by_cases k5 : e1.f.kd = 5
        · have k5b : (e1.f.kd == 5) = true := by simp [k5]
          go_wp2_with fail
          go_meet
          exact ⟨by rw [← HONE.out]; simp [cutB, k5], rfl⟩
        · have k5b : (e1.f.kd == 5) = false := by simp [k5]
          go_wp2_with fail
          go_meet
          exact ⟨by rw [← HONE.out]; simp [cutB, k1, k4, k5], rfl⟩
  case rest =>
  obtain ⟨rfl, rfl⟩ := hcut
  clear ck6
  go_upto_region 10 with fail
  go_cut [11] (fun s11 wx => s11 = .bool two ∧ V6 = wx)
  case first =>
    by_cases k1 : d2.f.kd = 1
    · have k1b : (d2.f.kd == 1) = true := by simp [k1]
      go_wp2_with fail
      go_meet
      exact ⟨by rw [← HTWO.out]; simp [cutB, k1], rfl⟩
    · have k1b : (d2.f.kd == 1) = false := by simp [k1]
      by_cases k4 : d2.f.kd = 4
      · have k4b : (d2.f.kd == 4) = true := by simp [k4]
        go_wp2_with fail
        go_meet
        exact ⟨by rw [← HTWO.out]; simp [cutB, k4], rfl⟩
      · have k4b : (d2.f.kd == 4) = false := by simp [k4]
        by_cases k5 : d2.f.kd = 5
        · have k5b : (d2.f.kd == 5) = true := by simp [k5]
          go_wp2_with fail
          go_meet
          exact ⟨by rw [← HTWO.out]; simp [cutB, k5], rfl⟩
        · have k5b : (d2.f.kd == 5) = false := by simp [k5]
          go_wp2_with fail
          go_meet
          exact ⟨by rw [← HTWO.out]; simp [cutB, k1, k4, k5], rfl⟩
  case rest =>
  obtain ⟨rfl, rfl⟩ := hcut
  clear ck7
  replace F6 := Lib.hid (F6.out.over (below_drew V6))
  replace F8 := Lib.hid (F8.out.over (below_drew V6))
  replace F9 := Lib.hid (F9.out.over (below_drew V6))
  replace O6 := Lib.hid (O6.out.over (below_drew V6))
  replace O8 := Lib.hid (O8.out.over (below_drew V6))
  replace O9 := Lib.hid (O9.out.over (below_drew V6))
  replace BB := Lib.hid (bel2 BB.out (below_drew V6))
  go_upto_region 11 with fail
  obtain ⟨v, HV⟩ : ∃ v, Hid (vF e1.f = v) := ⟨_, Lib.hid rfl⟩
  refine wp_region_held_drew (S := fun w' => FcAt w' w5.heap.size x ∧ FcAt w' w2.heap.size e1) (by kernel_rfl) ?_ (fun h0 => ?_)
  · exact ⟨F8.out, F6.out⟩
  refine wpAnyH_take (i := 0) (v := aggF x) rfl (by kernel_rfl) (by kernel_rfl) (by kernel_rfl) (fun _ _ _ h => h) (yields_load28 _ w5.heap.size x (fun _ h => h.1) (by rfl) rfl rfl) h0 ?_
  try simp only [List.getElem_toArray, List.getElem_cons_succ, List.getElem_cons_zero, Act.put, List.setIfInBounds_toArray, List.set_cons_zero, List.set_cons_succ]
  refine wpAnyH_take (i := 2) (v := aggF x) rfl (by kernel_rfl) (by kernel_rfl) (by kernel_rfl) (fun _ _ _ h => h) (yields_load28 _ w5.heap.size x (fun _ h => h.1) (by rfl) rfl rfl) h0 ?_
  try simp only [List.getElem_toArray, List.getElem_cons_succ, List.getElem_cons_zero, Act.put, List.setIfInBounds_toArray, List.set_cons_zero, List.set_cons_succ]
  refine wpAnyH_ready (rs := [1]) (by kernel_rfl) (by simp) ?_
  refine AllReadyH.cons rfl (fun K hK => ?_) AllReadyH.nil
  go_simp
  refine (redact5 x _ O8.out (sm_of O8.out SM8.out)).mono ?_
  rintro r wn ⟨x2, rfl, hxx, okx, bq⟩
  have OX := Lib.hid okx.ok
  have HXX := Lib.hid hxx
  clear okx hxx
  go_wp2_with fail
  replace F6 := Lib.hid (F6.out.over bq)
  replace F8 := Lib.hid (F8.out.over bq)
  replace F9 := Lib.hid (F9.out.over bq)
  replace O6 := Lib.hid (O6.out.over bq)
  replace O8 := Lib.hid (O8.out.over bq)
  replace O9 := Lib.hid (O9.out.over bq)
  replace BB := Lib.hid (bel2 BB.out bq)
  have bS := And.intro F8.out F6.out
  refine hK.out _ _ ?_ (fun h1 => ?_)
  · exact bS
  clear hK K h0 bS bq
  try simp only [List.getElem_toArray, List.getElem_cons_succ, List.getElem_cons_zero, Act.put, List.setIfInBounds_toArray, List.set_cons_zero, List.set_cons_succ]
  refine wpAnyH_ready (rs := [3]) (by kernel_rfl) (by simp) ?_
  refine AllReadyH.cons rfl (fun K hK => ?_) AllReadyH.nil
  go_simp
  refine (aS x2 x _ OX.out O8.out true (by rw [HXX.out, HX.out, red_red]; exact sF_self _)).mono ?_
  rintro r wn ⟨rfl, bq⟩
  go_wp2_with fail
  replace F6 := Lib.hid (F6.out.over bq)
  replace F8 := Lib.hid (F8.out.over bq)
  replace F9 := Lib.hid (F9.out.over bq)
  replace O6 := Lib.hid (O6.out.over bq)
  replace O8 := Lib.hid (O8.out.over bq)
  replace O9 := Lib.hid (O9.out.over bq)
  replace BB := Lib.hid (bel2 BB.out bq)
  have bS := And.intro F8.out F6.out
  refine hK.out _ _ ?_ (fun h2 => ?_)
  · exact bS
  clear hK K h1 bS bq
  try simp only [List.getElem_toArray, List.getElem_cons_succ, List.getElem_cons_zero, Act.put, List.setIfInBounds_toArray, List.set_cons_zero, List.set_cons_succ]
  clear OX HXX
  refine wpAnyH_take (i := 4) (v := ?_) rfl (by kernel_rfl) (by kernel_rfl) (by kernel_rfl) (fun _ _ _ h => h) (Or.inl ⟨by rfl, ?_⟩) h2 ?_
  rotate_left
  · (intro w hSw; (try dsimp only at hSw); go_simp); all_goals (with_reducible rfl)
  try simp only [List.getElem_toArray, List.getElem_cons_succ, List.getElem_cons_zero, Act.put, List.setIfInBounds_toArray, List.set_cons_zero, List.set_cons_succ]
  refine wpAnyH_take (i := 5) (v := ?_) rfl (by kernel_rfl) (by kernel_rfl) (by kernel_rfl) (fun _ _ _ h => h) (Or.inl ⟨by rfl, ?_⟩) h2 ?_
  rotate_left
  · (intro w hSw; (try dsimp only at hSw); go_simp); all_goals (with_reducible rfl)
  try simp only [List.getElem_toArray, List.getElem_cons_succ, List.getElem_cons_zero, Act.put, List.setIfInBounds_toArray, List.set_cons_zero, List.set_cons_succ]
  refine wpAnyH_take (i := 6) (v := aggF e1) rfl (by kernel_rfl) (by kernel_rfl) (by kernel_rfl) (fun _ _ _ h => h) (yields_load28 _ w2.heap.size e1 (fun _ h => h.2) (by rfl) rfl rfl) h2 ?_
  try simp only [List.getElem_toArray, List.getElem_cons_succ, List.getElem_cons_zero, Act.put, List.setIfInBounds_toArray, List.set_cons_zero, List.set_cons_succ]
  refine wpAnyH_ready (rs := [7]) (by kernel_rfl) (by simp) ?_
  refine AllReadyH.cons rfl (fun K hK => ?_) AllReadyH.nil
  go_simp
  refine (aV e1 _ O6.out v HV.out).mono ?_
  rintro r wn ⟨rfl, bq⟩
  go_wp2_with fail
  replace F6 := Lib.hid (F6.out.over bq)
  replace F8 := Lib.hid (F8.out.over bq)
  replace F9 := Lib.hid (F9.out.over bq)
  replace O6 := Lib.hid (O6.out.over bq)
  replace O8 := Lib.hid (O8.out.over bq)
  replace O9 := Lib.hid (O9.out.over bq)
  replace BB := Lib.hid (bel2 BB.out bq)
  have bS := And.intro F8.out F6.out
  refine hK.out _ _ ?_ (fun h3 => ?_)
  · exact bS
  clear hK K h2 bS bq
  try simp only [List.getElem_toArray, List.getElem_cons_succ, List.getElem_cons_zero, Act.put, List.setIfInBounds_toArray, List.set_cons_zero, List.set_cons_succ]
  refine wpAnyH_take (i := 8) (v := ?_) rfl (by kernel_rfl) (by kernel_rfl) (by kernel_rfl) (fun _ _ _ h => h) (Or.inl ⟨by rfl, ?_⟩) h3 ?_
  rotate_left
  · (intro w hSw; (try dsimp only at hSw); go_simp); all_goals (with_reducible rfl)
  try simp only [List.getElem_toArray, List.getElem_cons_succ, List.getElem_cons_zero, Act.put, List.setIfInBounds_toArray, List.set_cons_zero, List.set_cons_succ]
  cases v
  · refine wpAnyH_take (i := 9) (v := undef) rfl (by kernel_rfl) (by kernel_rfl) (by kernel_rfl) (fun _ _ _ h => h) (Or.inr ⟨by rfl, rfl⟩) h3 ?_
    try simp only [List.getElem_toArray, List.getElem_cons_succ, List.getElem_cons_zero, Act.put, List.setIfInBounds_toArray, List.set_cons_zero, List.set_cons_succ]
    refine wpAnyH_take (i := 10) (v := undef) rfl (by kernel_rfl) (by kernel_rfl) (by kernel_rfl) (fun _ _ _ h => h) (Or.inr ⟨by rfl, rfl⟩) h3 ?_
    try simp only [List.getElem_toArray, List.getElem_cons_succ, List.getElem_cons_zero, Act.put, List.setIfInBounds_toArray, List.set_cons_zero, List.set_cons_succ]
    refine wpAnyH_take (i := 11) (v := undef) rfl (by kernel_rfl) (by kernel_rfl) (by kernel_rfl) (fun _ _ _ h => h) (Or.inr ⟨by rfl, rfl⟩) h3 ?_
    try simp only [List.getElem_toArray, List.getElem_cons_succ, List.getElem_cons_zero, Act.put, List.setIfInBounds_toArray, List.set_cons_zero, List.set_cons_succ]
    refine wpAnyH_take (i := 12) (v := ?_) rfl (by kernel_rfl) (by kernel_rfl) (by kernel_rfl) (fun _ _ _ h => h) (Or.inl ⟨by rfl, ?_⟩) h3 ?_
    rotate_left
    · (intro w hSw; (try dsimp only at hSw); go_simp); all_goals (with_reducible rfl)
    try simp only [List.getElem_toArray, List.getElem_cons_succ, List.getElem_cons_zero, Act.put, List.setIfInBounds_toArray, List.set_cons_zero, List.set_cons_succ]
    refine wpAnyH_take (i := 13) (v := ?_) rfl (by kernel_rfl) (by kernel_rfl) (by kernel_rfl) (fun _ _ _ h => h) (Or.inl ⟨by rfl, ?_⟩) h3 ?_
    rotate_left
    · (intro w hSw; (try dsimp only at hSw); go_simp); all_goals (with_reducible rfl)
    try simp only [List.getElem_toArray, List.getElem_cons_succ, List.getElem_cons_zero, Act.put, List.setIfInBounds_toArray, List.set_cons_zero, List.set_cons_succ]
    refine wpAnyH_take (i := 14) (v := ?_) rfl (by kernel_rfl) (by kernel_rfl) (by kernel_rfl) (fun _ _ _ h => h) (Or.inl ⟨by rfl, ?_⟩) h3 ?_
    rotate_left
    · (intro w hSw; (try dsimp only at hSw); go_simp); all_goals (with_reducible rfl)
    try simp only [List.getElem_toArray, List.getElem_cons_succ, List.getElem_cons_zero, Act.put, List.setIfInBounds_toArray, List.set_cons_zero, List.set_cons_succ]
    cases one
    · have HXE : Hid (redF e1.f = e1.f) := Lib.hid (by unfold redF; rw [if_neg (by rw [HONE.out]; decide)])
      refine wpAnyH_take (i := 15) (v := ?_) rfl (by kernel_rfl) (by kernel_rfl) (by kernel_rfl) (fun _ _ _ h => h) (Or.inl ⟨by rfl, ?_⟩) h3 ?_
      rotate_left
      · (intro w hSw; (try dsimp only at hSw); go_simp); all_goals (with_reducible rfl)
      try simp only [List.getElem_toArray, List.getElem_cons_succ, List.getElem_cons_zero, Act.put, List.setIfInBounds_toArray, List.set_cons_zero, List.set_cons_succ]
      refine wpAnyH_take (i := 16) (v := ?_) rfl (by kernel_rfl) (by kernel_rfl) (by kernel_rfl) (fun _ _ _ h => h) (Or.inl ⟨by rfl, ?_⟩) h3 ?_
      rotate_left
      · (intro w hSw; (try dsimp only at hSw); go_simp); all_goals (with_reducible rfl)
      try simp only [List.getElem_toArray, List.getElem_cons_succ, List.getElem_cons_zero, Act.put, List.setIfInBounds_toArray, List.set_cons_zero, List.set_cons_succ]
      refine wpAnyH_take (i := 17) (v := ?_) rfl (by kernel_rfl) (by kernel_rfl) (by kernel_rfl) (fun _ _ _ h => h) (Or.inl ⟨by rfl, ?_⟩) h3 ?_
      rotate_left
      · (intro w hSw; (try dsimp only at hSw); go_simp); all_goals (with_reducible rfl)
      try simp only [List.getElem_toArray, List.getElem_cons_succ, List.getElem_cons_zero, Act.put, List.setIfInBounds_toArray, List.set_cons_zero, List.set_cons_succ]
      refine wpAnyH_take (i := 18) (v := aggF x) rfl (by kernel_rfl) (by kernel_rfl) (by kernel_rfl) (fun _ _ _ h => h) (yields_load28 _ w5.heap.size x (fun _ h => h.1) (by rfl) rfl rfl) h3 ?_
      try simp only [List.getElem_toArray, List.getElem_cons_succ, List.getElem_cons_zero, Act.put, List.setIfInBounds_toArray, List.set_cons_zero, List.set_cons_succ]
      refine wpAnyH_take (i := 19) (v := aggF e1) rfl (by kernel_rfl) (by kernel_rfl) (by kernel_rfl) (fun _ _ _ h => h) (yields_load28 _ w2.heap.size e1 (fun _ h => h.2) (by rfl) rfl rfl) h3 ?_
      try simp only [List.getElem_toArray, List.getElem_cons_succ, List.getElem_cons_zero, Act.put, List.setIfInBounds_toArray, List.set_cons_zero, List.set_cons_succ]
      refine wpAnyH_ready (rs := [20]) (by kernel_rfl) (by simp) ?_
      refine AllReadyH.cons rfl (fun K hK => ?_) AllReadyH.nil
      go_simp
      refine (aS x e1 _ O8.out O6.out true (by rw [HX.out, HXE.out]; exact sF_self _)).mono ?_
      rintro r wn ⟨rfl, bq⟩
      go_wp2_with fail
      replace F6 := Lib.hid (F6.out.over bq)
      replace F8 := Lib.hid (F8.out.over bq)
      replace F9 := Lib.hid (F9.out.over bq)
      replace O6 := Lib.hid (O6.out.over bq)
      replace O8 := Lib.hid (O8.out.over bq)
      replace O9 := Lib.hid (O9.out.over bq)
      replace BB := Lib.hid (bel2 BB.out bq)
      have bS := And.intro F8.out F6.out
      refine hK.out _ _ ?_ (fun h4 => ?_)
      · exact bS
      clear hK K h3 bS bq
      try simp only [List.getElem_toArray, List.getElem_cons_succ, List.getElem_cons_zero, Act.put, List.setIfInBounds_toArray, List.set_cons_zero, List.set_cons_succ]
      refine wpAnyH_take (i := 21) (v := ?_) rfl (by kernel_rfl) (by kernel_rfl) (by kernel_rfl) (fun _ _ _ h => h) (Or.inl ⟨by rfl, ?_⟩) h4 ?_
      rotate_left
      · (intro w hSw; (try dsimp only at hSw); go_simp); all_goals (with_reducible rfl)
      try simp only [List.getElem_toArray, List.getElem_cons_succ, List.getElem_cons_zero, Act.put, List.setIfInBounds_toArray, List.set_cons_zero, List.set_cons_succ]
      refine wpAnyH_take (i := 22) (v := ?_) rfl (by kernel_rfl) (by kernel_rfl) (by kernel_rfl) (fun _ _ _ h => h) (Or.inl ⟨by rfl, ?_⟩) h4 ?_
      rotate_left
      · (intro w hSw; (try dsimp only at hSw); go_simp); all_goals (with_reducible rfl)
      try simp only [List.getElem_toArray, List.getElem_cons_succ, List.getElem_cons_zero, Act.put, List.setIfInBounds_toArray, List.set_cons_zero, List.set_cons_succ]
      refine wpAnyH_take (i := 23) (v := ?_) rfl (by kernel_rfl) (by kernel_rfl) (by kernel_rfl) (fun _ _ _ h => h) (Or.inl ⟨by rfl, ?_⟩) h4 ?_
      rotate_left
      · (intro w hSw; (try dsimp only at hSw); go_simp); all_goals (with_reducible rfl)
      try simp only [List.getElem_toArray, List.getElem_cons_succ, List.getElem_cons_zero, Act.put, List.setIfInBounds_toArray, List.set_cons_zero, List.set_cons_succ]
      refine wpAnyH_done (by kernel_rfl) ?_ _
      clear h4
      go_wp2_with fail
      go_ret
      exact ⟨rfl, BB.out⟩
    · have HXE : Hid (redF e1.f = goneF e1.f) := Lib.hid (by unfold redF; rw [if_pos HONE.out])
      refine wpAnyH_take (i := 15) (v := ?_) rfl (by kernel_rfl) (by kernel_rfl) (by kernel_rfl) (fun _ _ _ h => h) (Or.inl ⟨by rfl, ?_⟩) h3 ?_
      rotate_left
      · (intro w hSw; (try dsimp only at hSw); go_simp); all_goals (with_reducible rfl)
      try simp only [List.getElem_toArray, List.getElem_cons_succ, List.getElem_cons_zero, Act.put, List.setIfInBounds_toArray, List.set_cons_zero, List.set_cons_succ]
      refine wpAnyH_take (i := 16) (v := ?_) rfl (by kernel_rfl) (by kernel_rfl) (by kernel_rfl) (fun _ _ _ h => h) (Or.inl ⟨by rfl, ?_⟩) h3 ?_
      rotate_left
      · (intro w hSw; (try dsimp only at hSw); go_simp); all_goals (with_reducible rfl)
      try simp only [List.getElem_toArray, List.getElem_cons_succ, List.getElem_cons_zero, Act.put, List.setIfInBounds_toArray, List.set_cons_zero, List.set_cons_succ]
      refine wpAnyH_take (i := 17) (v := ?_) rfl (by kernel_rfl) (by kernel_rfl) (by kernel_rfl) (fun _ _ _ h => h) (Or.inl ⟨by rfl, ?_⟩) h3 ?_
      rotate_left
      · (intro w hSw; (try dsimp only at hSw); go_simp); all_goals (with_reducible rfl)
      try simp only [List.getElem_toArray, List.getElem_cons_succ, List.getElem_cons_zero, Act.put, List.setIfInBounds_toArray, List.set_cons_zero, List.set_cons_succ]
      refine wpAnyH_take (i := 18) (v := undef) rfl (by kernel_rfl) (by kernel_rfl) (by kernel_rfl) (fun _ _ _ h => h) (Or.inr ⟨by rfl, rfl⟩) h3 ?_
      try simp only [List.getElem_toArray, List.getElem_cons_succ, List.getElem_cons_zero, Act.put, List.setIfInBounds_toArray, List.set_cons_zero, List.set_cons_succ]
      refine wpAnyH_take (i := 19) (v := undef) rfl (by kernel_rfl) (by kernel_rfl) (by kernel_rfl) (fun _ _ _ h => h) (Or.inr ⟨by rfl, rfl⟩) h3 ?_
      try simp only [List.getElem_toArray, List.getElem_cons_succ, List.getElem_cons_zero, Act.put, List.setIfInBounds_toArray, List.set_cons_zero, List.set_cons_succ]
      refine wpAnyH_take (i := 20) (v := undef) rfl (by kernel_rfl) (by kernel_rfl) (by kernel_rfl) (fun _ _ _ h => h) (Or.inr ⟨by rfl, rfl⟩) h3 ?_
      try simp only [List.getElem_toArray, List.getElem_cons_succ, List.getElem_cons_zero, Act.put, List.setIfInBounds_toArray, List.set_cons_zero, List.set_cons_succ]
      refine wpAnyH_take (i := 21) (v := undef) rfl (by kernel_rfl) (by kernel_rfl) (by kernel_rfl) (fun _ _ _ h => h) (Or.inr ⟨by rfl, rfl⟩) h3 ?_
      try simp only [List.getElem_toArray, List.getElem_cons_succ, List.getElem_cons_zero, Act.put, List.setIfInBounds_toArray, List.set_cons_zero, List.set_cons_succ]
      refine wpAnyH_take (i := 22) (v := ?_) rfl (by kernel_rfl) (by kernel_rfl) (by kernel_rfl) (fun _ _ _ h => h) (Or.inl ⟨by rfl, ?_⟩) h3 ?_
      rotate_left
      · (intro w hSw; (try dsimp only at hSw); go_simp); all_goals (with_reducible rfl)
      try simp only [List.getElem_toArray, List.getElem_cons_succ, List.getElem_cons_zero, Act.put, List.setIfInBounds_toArray, List.set_cons_zero, List.set_cons_succ]
      refine wpAnyH_take (i := 23) (v := ?_) rfl (by kernel_rfl) (by kernel_rfl) (by kernel_rfl) (fun _ _ _ h => h) (Or.inl ⟨by rfl, ?_⟩) h3 ?_
      rotate_left
      · (intro w hSw; (try dsimp only at hSw); go_simp); all_goals (with_reducible rfl)
      try simp only [List.getElem_toArray, List.getElem_cons_succ, List.getElem_cons_zero, Act.put, List.setIfInBounds_toArray, List.set_cons_zero, List.set_cons_succ]
      refine wpAnyH_done (by kernel_rfl) ?_ _
      clear h3
      have HG : Hid (x.f = goneF e1.f) := Lib.hid (HX.out.trans HXE.out)
      have c82 : wn.cell? ⟨w5.heap.size, 2, none⟩ = some (.int .i64 10) := by
        rw [F8.out.cell 2]
        show some (Value.int .i64 x.f.kd) = _
        rw [HG.out]; rfl
      have c80 : wn.cell? ⟨w5.heap.size, 0, none⟩ = some (.int .i64 e1.f.n) := by
        rw [F8.out.cell 0]
        show some (Value.int .i64 x.f.n) = _
        rw [HG.out]; rfl
      have c81 : wn.cell? ⟨w5.heap.size, 1, none⟩ = some (.int .i64 e1.f.tm) := by
        rw [F8.out.cell 1]
        show some (Value.int .i64 x.f.tm) = _
        rw [HG.out]; rfl
      have c83 : wn.cell? ⟨w5.heap.size, 3, none⟩ = some (.int .i64 e1.f.st) := by
        rw [F8.out.cell 3]
        show some (Value.int .i64 x.f.st) = _
        rw [HG.out]; rfl
      have c8t : wn.cell? ⟨w5.heap.size, 18, none⟩ = some (.string ⟨#[]⟩) := by
        rw [F8.out.cell 18]
        show some (Value.string ⟨x.f.tx.toArray⟩) = _
        rw [HG.out]; rfl
      have c8b : wn.cell? ⟨w5.heap.size, 10, none⟩ = some (.slice x.ba 0 x.bc) := by
        rw [F8.out.cell 10]
        show some (Value.slice x.ba x.bn x.bc) = _
        rw [gone_no O8.out HG.out]
      have c60 : wn.cell? ⟨w2.heap.size, 0, none⟩ = some (.int .i64 e1.f.n) := F6.out.cell 0
      have c61 : wn.cell? ⟨w2.heap.size, 1, none⟩ = some (.int .i64 e1.f.tm) := F6.out.cell 1
      have c63 : wn.cell? ⟨w2.heap.size, 3, none⟩ = some (.int .i64 e1.f.st) := F6.out.cell 3
      cases two
      · go_wp2_with fail
        go_ret
        exact ⟨rfl, BB.out⟩
      · have tokA : True := trivial
        go_wp2_with (first | (have _t := tokA; refine wpList_load28g _ w5.heap.size x ?F (by kernel_rfl) rfl rfl ?_; (case F => exact F8.out); clear _t tokA) | (refine wpList_load28g _ w6.heap.size y ?F (by kernel_rfl) rfl rfl ?_; (case F => exact F9.out)))
        refine (kSt x y _ O8.out O9.out true (by rw [HX.out, HY.out, HLG.out HONE.out HTWO.out]; exact sF_self _)).mono ?_
        rintro r wz ⟨rfl, bq⟩
        replace BB := Lib.hid (bel2 BB.out bq)
        clear bq
        go_wp2_with fail
        go_ret
        exact ⟨rfl, BB.out⟩
  · refine wpAnyH_take (i := 9) (v := aggF x) rfl (by kernel_rfl) (by kernel_rfl) (by kernel_rfl) (fun _ _ _ h => h) (yields_load28 _ w5.heap.size x (fun _ h => h.1) (by rfl) rfl rfl) h3 ?_
    try simp only [List.getElem_toArray, List.getElem_cons_succ, List.getElem_cons_zero, Act.put, List.setIfInBounds_toArray, List.set_cons_zero, List.set_cons_succ]
    refine wpAnyH_ready (rs := [10]) (by kernel_rfl) (by simp) ?_
    refine AllReadyH.cons rfl (fun K hK => ?_) AllReadyH.nil
    go_simp
    refine (aV x _ O8.out true (by rw [HX.out]; exact red_valid HV.out)).mono ?_
    rintro r wn ⟨rfl, bq⟩
    go_wp2_with fail
    replace F6 := Lib.hid (F6.out.over bq)
    replace F8 := Lib.hid (F8.out.over bq)
    replace F9 := Lib.hid (F9.out.over bq)
    replace O6 := Lib.hid (O6.out.over bq)
    replace O8 := Lib.hid (O8.out.over bq)
    replace O9 := Lib.hid (O9.out.over bq)
    replace BB := Lib.hid (bel2 BB.out bq)
    have bS := And.intro F8.out F6.out
    refine hK.out _ _ ?_ (fun h4 => ?_)
    · exact bS
    clear hK K h3 bS bq
    try simp only [List.getElem_toArray, List.getElem_cons_succ, List.getElem_cons_zero, Act.put, List.setIfInBounds_toArray, List.set_cons_zero, List.set_cons_succ]
    refine wpAnyH_take (i := 11) (v := ?_) rfl (by kernel_rfl) (by kernel_rfl) (by kernel_rfl) (fun _ _ _ h => h) (Or.inl ⟨by rfl, ?_⟩) h4 ?_
    rotate_left
    · (intro w hSw; (try dsimp only at hSw); go_simp); all_goals (with_reducible rfl)
    try simp only [List.getElem_toArray, List.getElem_cons_succ, List.getElem_cons_zero, Act.put, List.setIfInBounds_toArray, List.set_cons_zero, List.set_cons_succ]
    refine wpAnyH_take (i := 12) (v := ?_) rfl (by kernel_rfl) (by kernel_rfl) (by kernel_rfl) (fun _ _ _ h => h) (Or.inl ⟨by rfl, ?_⟩) h4 ?_
    rotate_left
    · (intro w hSw; (try dsimp only at hSw); go_simp); all_goals (with_reducible rfl)
    try simp only [List.getElem_toArray, List.getElem_cons_succ, List.getElem_cons_zero, Act.put, List.setIfInBounds_toArray, List.set_cons_zero, List.set_cons_succ]
    refine wpAnyH_take (i := 13) (v := ?_) rfl (by kernel_rfl) (by kernel_rfl) (by kernel_rfl) (fun _ _ _ h => h) (Or.inl ⟨by rfl, ?_⟩) h4 ?_
    rotate_left
    · (intro w hSw; (try dsimp only at hSw); go_simp); all_goals (with_reducible rfl)
    try simp only [List.getElem_toArray, List.getElem_cons_succ, List.getElem_cons_zero, Act.put, List.setIfInBounds_toArray, List.set_cons_zero, List.set_cons_succ]
    refine wpAnyH_take (i := 14) (v := ?_) rfl (by kernel_rfl) (by kernel_rfl) (by kernel_rfl) (fun _ _ _ h => h) (Or.inl ⟨by rfl, ?_⟩) h4 ?_
    rotate_left
    · (intro w hSw; (try dsimp only at hSw); go_simp); all_goals (with_reducible rfl)
    try simp only [List.getElem_toArray, List.getElem_cons_succ, List.getElem_cons_zero, Act.put, List.setIfInBounds_toArray, List.set_cons_zero, List.set_cons_succ]
    cases one
    · have HXE : Hid (redF e1.f = e1.f) := Lib.hid (by unfold redF; rw [if_neg (by rw [HONE.out]; decide)])
      refine wpAnyH_take (i := 15) (v := ?_) rfl (by kernel_rfl) (by kernel_rfl) (by kernel_rfl) (fun _ _ _ h => h) (Or.inl ⟨by rfl, ?_⟩) h4 ?_
      rotate_left
      · (intro w hSw; (try dsimp only at hSw); go_simp); all_goals (with_reducible rfl)
      try simp only [List.getElem_toArray, List.getElem_cons_succ, List.getElem_cons_zero, Act.put, List.setIfInBounds_toArray, List.set_cons_zero, List.set_cons_succ]
      refine wpAnyH_take (i := 16) (v := ?_) rfl (by kernel_rfl) (by kernel_rfl) (by kernel_rfl) (fun _ _ _ h => h) (Or.inl ⟨by rfl, ?_⟩) h4 ?_
      rotate_left
      · (intro w hSw; (try dsimp only at hSw); go_simp); all_goals (with_reducible rfl)
      try simp only [List.getElem_toArray, List.getElem_cons_succ, List.getElem_cons_zero, Act.put, List.setIfInBounds_toArray, List.set_cons_zero, List.set_cons_succ]
      refine wpAnyH_take (i := 17) (v := ?_) rfl (by kernel_rfl) (by kernel_rfl) (by kernel_rfl) (fun _ _ _ h => h) (Or.inl ⟨by rfl, ?_⟩) h4 ?_
      rotate_left
      · (intro w hSw; (try dsimp only at hSw); go_simp); all_goals (with_reducible rfl)
      try simp only [List.getElem_toArray, List.getElem_cons_succ, List.getElem_cons_zero, Act.put, List.setIfInBounds_toArray, List.set_cons_zero, List.set_cons_succ]
      refine wpAnyH_take (i := 18) (v := aggF x) rfl (by kernel_rfl) (by kernel_rfl) (by kernel_rfl) (fun _ _ _ h => h) (yields_load28 _ w5.heap.size x (fun _ h => h.1) (by rfl) rfl rfl) h4 ?_
      try simp only [List.getElem_toArray, List.getElem_cons_succ, List.getElem_cons_zero, Act.put, List.setIfInBounds_toArray, List.set_cons_zero, List.set_cons_succ]
      refine wpAnyH_take (i := 19) (v := aggF e1) rfl (by kernel_rfl) (by kernel_rfl) (by kernel_rfl) (fun _ _ _ h => h) (yields_load28 _ w2.heap.size e1 (fun _ h => h.2) (by rfl) rfl rfl) h4 ?_
      try simp only [List.getElem_toArray, List.getElem_cons_succ, List.getElem_cons_zero, Act.put, List.setIfInBounds_toArray, List.set_cons_zero, List.set_cons_succ]
      refine wpAnyH_ready (rs := [20]) (by kernel_rfl) (by simp) ?_
      refine AllReadyH.cons rfl (fun K hK => ?_) AllReadyH.nil
      go_simp
      refine (aS x e1 _ O8.out O6.out true (by rw [HX.out, HXE.out]; exact sF_self _)).mono ?_
      rintro r wn ⟨rfl, bq⟩
      go_wp2_with fail
      replace F6 := Lib.hid (F6.out.over bq)
      replace F8 := Lib.hid (F8.out.over bq)
      replace F9 := Lib.hid (F9.out.over bq)
      replace O6 := Lib.hid (O6.out.over bq)
      replace O8 := Lib.hid (O8.out.over bq)
      replace O9 := Lib.hid (O9.out.over bq)
      replace BB := Lib.hid (bel2 BB.out bq)
      have bS := And.intro F8.out F6.out
      refine hK.out _ _ ?_ (fun h5 => ?_)
      · exact bS
      clear hK K h4 bS bq
      try simp only [List.getElem_toArray, List.getElem_cons_succ, List.getElem_cons_zero, Act.put, List.setIfInBounds_toArray, List.set_cons_zero, List.set_cons_succ]
      refine wpAnyH_take (i := 21) (v := ?_) rfl (by kernel_rfl) (by kernel_rfl) (by kernel_rfl) (fun _ _ _ h => h) (Or.inl ⟨by rfl, ?_⟩) h5 ?_
      rotate_left
      · (intro w hSw; (try dsimp only at hSw); go_simp); all_goals (with_reducible rfl)
      try simp only [List.getElem_toArray, List.getElem_cons_succ, List.getElem_cons_zero, Act.put, List.setIfInBounds_toArray, List.set_cons_zero, List.set_cons_succ]
      refine wpAnyH_take (i := 22) (v := ?_) rfl (by kernel_rfl) (by kernel_rfl) (by kernel_rfl) (fun _ _ _ h => h) (Or.inl ⟨by rfl, ?_⟩) h5 ?_
      rotate_left
      · (intro w hSw; (try dsimp only at hSw); go_simp); all_goals (with_reducible rfl)
      try simp only [List.getElem_toArray, List.getElem_cons_succ, List.getElem_cons_zero, Act.put, List.setIfInBounds_toArray, List.set_cons_zero, List.set_cons_succ]
      refine wpAnyH_take (i := 23) (v := ?_) rfl (by kernel_rfl) (by kernel_rfl) (by kernel_rfl) (fun _ _ _ h => h) (Or.inl ⟨by rfl, ?_⟩) h5 ?_
      rotate_left
      · (intro w hSw; (try dsimp only at hSw); go_simp); all_goals (with_reducible rfl)
      try simp only [List.getElem_toArray, List.getElem_cons_succ, List.getElem_cons_zero, Act.put, List.setIfInBounds_toArray, List.set_cons_zero, List.set_cons_succ]
      refine wpAnyH_done (by kernel_rfl) ?_ _
      clear h5
      go_wp2_with fail
      go_ret
      exact ⟨rfl, BB.out⟩
    · have HXE : Hid (redF e1.f = goneF e1.f) := Lib.hid (by unfold redF; rw [if_pos HONE.out])
      refine wpAnyH_take (i := 15) (v := ?_) rfl (by kernel_rfl) (by kernel_rfl) (by kernel_rfl) (fun _ _ _ h => h) (Or.inl ⟨by rfl, ?_⟩) h4 ?_
      rotate_left
      · (intro w hSw; (try dsimp only at hSw); go_simp); all_goals (with_reducible rfl)
      try simp only [List.getElem_toArray, List.getElem_cons_succ, List.getElem_cons_zero, Act.put, List.setIfInBounds_toArray, List.set_cons_zero, List.set_cons_succ]
      refine wpAnyH_take (i := 16) (v := ?_) rfl (by kernel_rfl) (by kernel_rfl) (by kernel_rfl) (fun _ _ _ h => h) (Or.inl ⟨by rfl, ?_⟩) h4 ?_
      rotate_left
      · (intro w hSw; (try dsimp only at hSw); go_simp); all_goals (with_reducible rfl)
      try simp only [List.getElem_toArray, List.getElem_cons_succ, List.getElem_cons_zero, Act.put, List.setIfInBounds_toArray, List.set_cons_zero, List.set_cons_succ]
      refine wpAnyH_take (i := 17) (v := ?_) rfl (by kernel_rfl) (by kernel_rfl) (by kernel_rfl) (fun _ _ _ h => h) (Or.inl ⟨by rfl, ?_⟩) h4 ?_
      rotate_left
      · (intro w hSw; (try dsimp only at hSw); go_simp); all_goals (with_reducible rfl)
      try simp only [List.getElem_toArray, List.getElem_cons_succ, List.getElem_cons_zero, Act.put, List.setIfInBounds_toArray, List.set_cons_zero, List.set_cons_succ]
      refine wpAnyH_take (i := 18) (v := undef) rfl (by kernel_rfl) (by kernel_rfl) (by kernel_rfl) (fun _ _ _ h => h) (Or.inr ⟨by rfl, rfl⟩) h4 ?_
      try simp only [List.getElem_toArray, List.getElem_cons_succ, List.getElem_cons_zero, Act.put, List.setIfInBounds_toArray, List.set_cons_zero, List.set_cons_succ]
      refine wpAnyH_take (i := 19) (v := undef) rfl (by kernel_rfl) (by kernel_rfl) (by kernel_rfl) (fun _ _ _ h => h) (Or.inr ⟨by rfl, rfl⟩) h4 ?_
      try simp only [List.getElem_toArray, List.getElem_cons_succ, List.getElem_cons_zero, Act.put, List.setIfInBounds_toArray, List.set_cons_zero, List.set_cons_succ]
      refine wpAnyH_take (i := 20) (v := undef) rfl (by kernel_rfl) (by kernel_rfl) (by kernel_rfl) (fun _ _ _ h => h) (Or.inr ⟨by rfl, rfl⟩) h4 ?_
      try simp only [List.getElem_toArray, List.getElem_cons_succ, List.getElem_cons_zero, Act.put, List.setIfInBounds_toArray, List.set_cons_zero, List.set_cons_succ]
      refine wpAnyH_take (i := 21) (v := undef) rfl (by kernel_rfl) (by kernel_rfl) (by kernel_rfl) (fun _ _ _ h => h) (Or.inr ⟨by rfl, rfl⟩) h4 ?_
      try simp only [List.getElem_toArray, List.getElem_cons_succ, List.getElem_cons_zero, Act.put, List.setIfInBounds_toArray, List.set_cons_zero, List.set_cons_succ]
      refine wpAnyH_take (i := 22) (v := ?_) rfl (by kernel_rfl) (by kernel_rfl) (by kernel_rfl) (fun _ _ _ h => h) (Or.inl ⟨by rfl, ?_⟩) h4 ?_
      rotate_left
      · (intro w hSw; (try dsimp only at hSw); go_simp); all_goals (with_reducible rfl)
      try simp only [List.getElem_toArray, List.getElem_cons_succ, List.getElem_cons_zero, Act.put, List.setIfInBounds_toArray, List.set_cons_zero, List.set_cons_succ]
      refine wpAnyH_take (i := 23) (v := ?_) rfl (by kernel_rfl) (by kernel_rfl) (by kernel_rfl) (fun _ _ _ h => h) (Or.inl ⟨by rfl, ?_⟩) h4 ?_
      rotate_left
      · (intro w hSw; (try dsimp only at hSw); go_simp); all_goals (with_reducible rfl)
      try simp only [List.getElem_toArray, List.getElem_cons_succ, List.getElem_cons_zero, Act.put, List.setIfInBounds_toArray, List.set_cons_zero, List.set_cons_succ]
      refine wpAnyH_done (by kernel_rfl) ?_ _
      clear h4
      have HG : Hid (x.f = goneF e1.f) := Lib.hid (HX.out.trans HXE.out)
      have c82 : wn.cell? ⟨w5.heap.size, 2, none⟩ = some (.int .i64 10) := by
        rw [F8.out.cell 2]
        show some (Value.int .i64 x.f.kd) = _
        rw [HG.out]; rfl
      have c80 : wn.cell? ⟨w5.heap.size, 0, none⟩ = some (.int .i64 e1.f.n) := by
        rw [F8.out.cell 0]
        show some (Value.int .i64 x.f.n) = _
        rw [HG.out]; rfl
      have c81 : wn.cell? ⟨w5.heap.size, 1, none⟩ = some (.int .i64 e1.f.tm) := by
        rw [F8.out.cell 1]
        show some (Value.int .i64 x.f.tm) = _
        rw [HG.out]; rfl
      have c83 : wn.cell? ⟨w5.heap.size, 3, none⟩ = some (.int .i64 e1.f.st) := by
        rw [F8.out.cell 3]
        show some (Value.int .i64 x.f.st) = _
        rw [HG.out]; rfl
      have c8t : wn.cell? ⟨w5.heap.size, 18, none⟩ = some (.string ⟨#[]⟩) := by
        rw [F8.out.cell 18]
        show some (Value.string ⟨x.f.tx.toArray⟩) = _
        rw [HG.out]; rfl
      have c8b : wn.cell? ⟨w5.heap.size, 10, none⟩ = some (.slice x.ba 0 x.bc) := by
        rw [F8.out.cell 10]
        show some (Value.slice x.ba x.bn x.bc) = _
        rw [gone_no O8.out HG.out]
      have c60 : wn.cell? ⟨w2.heap.size, 0, none⟩ = some (.int .i64 e1.f.n) := F6.out.cell 0
      have c61 : wn.cell? ⟨w2.heap.size, 1, none⟩ = some (.int .i64 e1.f.tm) := F6.out.cell 1
      have c63 : wn.cell? ⟨w2.heap.size, 3, none⟩ = some (.int .i64 e1.f.st) := F6.out.cell 3
      cases two
      · go_wp2_with fail
        go_ret
        exact ⟨rfl, BB.out⟩
      · have tokA : True := trivial
        go_wp2_with (first | (have _t := tokA; refine wpList_load28g _ w5.heap.size x ?F (by kernel_rfl) rfl rfl ?_; (case F => exact F8.out); clear _t tokA) | (refine wpList_load28g _ w6.heap.size y ?F (by kernel_rfl) rfl rfl ?_; (case F => exact F9.out)))
        refine (kSt x y _ O8.out O9.out true (by rw [HX.out, HY.out, HLG.out HONE.out HTWO.out]; exact sF_self _)).mono ?_
        rintro r wz ⟨rfl, bq⟩
        replace BB := Lib.hid (bel2 BB.out bq)
        clear bq
        go_wp2_with fail
        go_ret
        exact ⟨rfl, BB.out⟩
end Go.Proofs.YtlhcckjfgpcohaaGreatDoor
