import Derived.Test.YtelipjjjlgnjoaaGreatDoorMgJ
import Derived.Test.YtelipjjjlgnjoaaGreatDoorMgD
import Derived.Test.YtelipjjjlgnjoaaGreatDoorMgE
import Derived.Test.YtelipjjjlgnjoaaGreatDoorRefValid
namespace Go.Proofs.YtelipjjjlgnjoaaGreatDoor
open Go.RowKit Go.MapKept Go.Shelf
attribute [local go_sem] Oper.semAt_some
set_option maxRecDepth 100000
set_option linter.unusedSimpArgs false
set_option linter.unusedVariables false
theorem asc_len : ∀ (l : List Int) (lo : Int), lo ≤ 65 → l.Pairwise (· < ·) → (∀ z ∈ l, lo ≤ z ∧ z ≤ 64) → (l.length : Int) ≤ 65 - lo
  | [], lo, h, _, _ => by simp; omega
  | z :: l, lo, h, hp, hb => by
    rw [List.pairwise_cons] at hp
    have hz := hb z List.mem_cons_self
    have := asc_len l (z + 1) (by omega) hp.2 (fun y hy => ⟨by have := hp.1 y hy; omega, (hb y (List.mem_cons_of_mem _ hy)).2⟩)
    rw [List.length_cons]; omega
theorem bd_of {w : World} {e : BE} (h : BeOk w e) (hv : vB e.1 = true) : BlkBd e.1 ∧ e.1.lb.af.length ≤ 1000 := by
  obtain ⟨⟨h1, h2, h3, h4⟩, h5, h6, h7, h8, h9⟩ := h
  simp only [vB, Bool.and_eq_true] at hv
  have ht := kind_text hv.2.2.1
  simp only [textB, Bool.and_eq_true, decide_eq_true_eq] at ht
  have hok := (validB_iff _).1 hv.2.2.2.2
  refine ⟨⟨h6, h7, h8, h9, h2, h3, h4, by have := ht.1; omega, fun z hz => ?_⟩, ?_⟩
  · have := hok.2.1 z hz
    unfold Bd; omega
  · have := asc_len _ 1 (by omega) hok.2.2.1 hok.2.1
    omega
/-- What a triple of results reads as, laid in new blocks. -/
structure MRes (W : World) (base : Nat) (a1 : Option Addr) (n1 c1 : Nat) (rs : List BE) (a2 : Option Addr) (n2 c2 : Nat) (cs : List Int) : Prop where
  own : W.ownsRow base 39 9 (.slice a1 n1 c1) n1 (rs.flatMap elB)
  each : ∀ e ∈ rs, BeIn base W e
  ints : W.ownsRow base 3 1 (.slice a2 n2 c2) n2 (intsV cs)
theorem MRes.nil (W : World) (base : Nat) : MRes W base none 0 0 [] none 0 0 [] := ⟨World.ownsRow_nil _ _ _ _, by simp, World.ownsRow_nil _ _ _ _⟩
theorem beIn_mono {W : World} {b b' : Nat} {e : BE} (h : BeIn b W e) (hb : b' ≤ b) : BeIn b' W e := ⟨h.1, own_mono h.2 hb⟩
theorem mapOf_c {w : World} {p : List BE} {a2 : Option Addr} {n2 c2 : Nat} {q : List BE} {a3 : Option Addr} {n3 c3 : Nat} {r : List BE} {W : World} {G cnt : Nat} (h2 : IsBlks w a2 n2 c2 q) (h3 : IsBlks w a3 n3 c3 r) (hv : v3 (blks p) (blks q) (blks r) = true) (hb : Below w.heap.size w W) (hm : IsMapV W Tryz.prog 3 G cnt (mapE (mgE p q r))) : MapOf W G cnt (mgE p q r) := by
  refine ⟨hm, fun i e he => ?_⟩
  obtain ⟨_, vq, vr⟩ := v3_iff.1 hv
  obtain ⟨h1, h4⟩ := mgE_from hv he
  have key : BeOk w e ∧ vB e.1 = true := by
    rcases h1 with h1 | h1
    · exact ⟨h2.2.2.2.1 e h1, vL_all vq _ (List.mem_map.2 ⟨e, h1, rfl⟩)⟩
    · exact ⟨h3.2.2.2.1 e h1, vL_all vr _ (List.mem_map.2 ⟨e, h1, rfl⟩)⟩
  exact ⟨(bd_of key.1 key.2).1, key.1.over hb, (bd_of key.1 key.2).2, h4⟩
theorem merge_any (a1 : Option Addr) (n1 c1 : Nat) (p : List BE) (a2 : Option Addr) (n2 c2 : Nat) (q : List BE) (a3 : Option Addr) (n3 c3 : Nat) (r : List BE) (w : World) (h1 : IsBlks w a1 n1 c1 p) (h2 : IsBlks w a2 n2 c2 q) (h3 : IsBlks w a3 n3 c3 r) :
    Calls Tryz.prog 14 #[.slice a1 n1 c1, .slice a2 n2 c2, .slice a3 n3 c3] w fun x w' => ∃ b1 d1 rs b2 m2 d2, x = .returned (.tuple #[.slice b1 rs.length d1, .slice b2 m2 d2, .int .i64 (mergeR (blks p) (blks q) (blks r)).2.2]) ∧ blks rs = (mergeR (blks p) (blks q) (blks r)).1 ∧ MRes w' w.heap.size b1 rs.length d1 rs b2 m2 d2 (mergeR (blks p) (blks q) (blks r)).2.1 ∧ Below w.heap.size w w' := by
  have B0 := below_alloc w (.cells #[.slice a1 n1 c1, .slice a2 n2 c2, .slice a3 n3 c3] 22)
  have K1 := Lib.hid (areAll_any w.heap.size _ _ _ _ _ _ _ _ _ _ _ _ (w.alloc (.cells #[.slice a1 n1 c1, .slice a2 n2 c2, .slice a3 n3 c3] 22)) ⟨heap_alloc_new w _, h1.over B0, h2.over B0, h3.over B0⟩)
  have H1 := Lib.hid h1
  have H2 := Lib.hid h2
  have H3 := Lib.hid h3
  clear h1 h2 h3
  generalize hMR : mergeR (blks p) (blks q) (blks r) = MR
  have HMR := Lib.hid hMR
  clear hMR
  go_enter Tryz.func14, Tryz.ntmps14
  go_wp2_with fail
  refine K1.out.mono ?_
  rintro x w1 ⟨rfl, b1⟩
  have BB := Lib.hid (bel2 B0 b1)
  clear B0 b1 K1
  cases hv : v3 (blks p) (blks q) (blks r)
  · have hR : MR = ([], [], 40) := by rw [← HMR.out]; unfold mergeR; rw [hv]; rfl
    have HR := Lib.hid hR
    clear hv hR
    go_wp2
    go_ret3
    rw [HR.out]
    exact ⟨none, 0, [], none, 0, 0, rfl, rfl, MRes.nil _ _, BB.out⟩
  · have HV := Lib.hid hv
    clear hv
    have KC := Lib.hid (contents_any a1 n1 c1 p a2 n2 c2 q a3 n3 c3 r w1 (H1.out.over BB.out) (H2.out.over BB.out) (H3.out.over BB.out) HV.out)
    go_wp2_with fail
    refine KC.out.mono ?_
    rintro x w2 ⟨G, ac, nc, cc, rfl, hm, hc, b2⟩
    have HM := Lib.hid (mapOf_c (H2.out.over BB.out) (H3.out.over BB.out) HV.out b2 hm)
    have HS1 := BB.out.size
    have HC := Lib.hid (own_mono hc HS1)
    have B2 := Lib.hid (bel2 BB.out b2)
    clear hm hc b2 KC
    have hmc : (mcount (blks p) (blks q) (blks r)) ≤ 1000 := by
      have h := List.length_filter_le (hasM (blks p) (blks q) (blks r)) iota
      have h2 : iota.length = 1000 := by simp [iota]
      unfold mcount; omega
    obtain ⟨cnt, hcnt⟩ : ∃ cnt, mcount (blks p) (blks q) (blks r) = cnt := ⟨_, rfl⟩
    rw [hcnt] at HM hmc
    have HCN := Lib.hid hcnt
    clear hcnt
    have hlen : Sem.run Tryz.prog (Builtin.len_ #[42] 3 #[.map (some G)]) w2 = .ok (.int .i64 cnt) w2 := HM.out.hm.len Tryz.underlying42 3
    by_cases h24 : 24 < cnt
    · have HR := Lib.hid (show MR = ([], [], 40) by rw [← HMR.out]; unfold mergeR; rw [HV.out, if_pos rfl, HCN.out, if_pos h24])
      go_wp2_with fail
      go_ret3
      rw [HR.out]
      exact ⟨none, 0, [], none, 0, 0, rfl, rfl, MRes.nil _ _, B2.out⟩
    · have HR := Lib.hid (show MR = (mres (blks p) (blks q) (blks r), mconf (blks p) (blks q) (blks r), 0) by rw [← HMR.out]; unfold mergeR; rw [HV.out, if_pos rfl, HCN.out, if_neg h24])
      have VV := v3_iff.1 HV.out
      have KM := Lib.hid (hasMoved_any a3 n3 c3 r a1 n1 c1 p w2 (H3.out.over B2.out) (H1.out.over B2.out) (vL_nodup VV.1) (by have := vL_len VV.1; have h := H1.out.1; simp [blks] at this; omega))
      have hq : n2 ≤ 1000 := by have := vL_len VV.2.1; have h := H2.out.1; simp [blks] at this; omega
      have hr : n3 ≤ 1000 := by have := vL_len VV.2.2; have h := H3.out.1; simp [blks] at this; omega
      have NA := Lib.hid (vL_nodup VV.2.1)
      have NB := Lib.hid (vL_nodup VV.2.2)
      clear VV
      go_wp2_with fail
      refine KM.out.mono ?_
      rintro x w3 ⟨rfl, b3⟩
      have M3 := Lib.hid (HM.out.over b3)
      have C3 := Lib.hid (own_over HC.out b3)
      have B3 := Lib.hid (bel2 B2.out b3)
      clear b3 KM
      cases hmv : movI (bids (blks p)) (bids (blks r))
      · have KO := Lib.hid (inOrder_any G cnt _ a2 n2 c2 q a3 n3 c3 r w3 M3.out (H2.out.over B3.out) (H3.out.over B3.out) hq hr NA.out)
        have HO := Lib.hid (show mord (blks p) (blks q) (blks r) = ordL (hasM (blks p) (blks q) (blks r)) (bids (blks q)) (bids (blks r)) by unfold mord; rw [hmv]; rfl)
        clear hmv
        go_wp2_with fail
        refine KO.out.mono ?_
        rintro x w4 ⟨a', c', rs, rfl, hbl, hown, hin, b4⟩
        have hnc := own_len C3.out
        have C4 := Lib.hid (own_over C3.out b4)
        have B4 := Lib.hid (bel2 B3.out b4)
        have hs3 := B3.out.size
        have OW := Lib.hid (own_mono hown hs3)
        have IN := Lib.hid (fun e he => beIn_mono (hin e he) hs3)
        have BL := Lib.hid hbl
        clear hbl hown hin b4 hnc
        go_wp2
        go_ret3
        rw [HR.out]
        refine ⟨a', c', rs, ac, nc, cc, rfl, ?_, ⟨OW.out, IN.out, C4.out⟩, B4.out⟩
        rw [BL.out]
        show _ = mres (blks p) (blks q) (blks r)
        unfold mres
        rw [HO.out, show mB (mgE p q r) = hasM (blks p) (blks q) (blks r) from funext (mB_has HV.out)]
        exact congrArg (fun f => List.filterMap f _) (funext (mgE_map HV.out))
      · have KO := Lib.hid (inOrder_any G cnt _ a3 n3 c3 r a2 n2 c2 q w3 M3.out (H3.out.over B3.out) (H2.out.over B3.out) hr hq NB.out)
        have HO := Lib.hid (show mord (blks p) (blks q) (blks r) = ordL (hasM (blks p) (blks q) (blks r)) (bids (blks r)) (bids (blks q)) by unfold mord; rw [hmv]; rfl)
        clear hmv
        go_wp2_with fail
        refine KO.out.mono ?_
        rintro x w4 ⟨a', c', rs, rfl, hbl, hown, hin, b4⟩
        have hnc := own_len C3.out
        have C4 := Lib.hid (own_over C3.out b4)
        have B4 := Lib.hid (bel2 B3.out b4)
        have hs3 := B3.out.size
        have OW := Lib.hid (own_mono hown hs3)
        have IN := Lib.hid (fun e he => beIn_mono (hin e he) hs3)
        have BL := Lib.hid hbl
        clear hbl hown hin b4 hnc
        go_wp2
        go_ret3
        rw [HR.out]
        refine ⟨a', c', rs, ac, nc, cc, rfl, ?_, ⟨OW.out, IN.out, C4.out⟩, B4.out⟩
        rw [BL.out]
        show _ = mres (blks p) (blks q) (blks r)
        unfold mres
        rw [HO.out, show mB (mgE p q r) = hasM (blks p) (blks q) (blks r) from funext (mB_has HV.out)]
        exact congrArg (fun f => List.filterMap f _) (funext (mgE_map HV.out))
end Go.Proofs.YtelipjjjlgnjoaaGreatDoor
