import Derived.Test.YtlhcckjfgpcohaaGreatDoorBlkL
import Derived.Deep.LoopGhost
namespace Go.Proofs.YtlhcckjfgpcohaaGreatDoor
open Go.RowKit Go.MapKept
set_option maxRecDepth 100000
set_option linter.unusedSimpArgs false
set_option linter.unusedVariables false
set_option maxHeartbeats 4000000 in
theorem bsame_walk (id kd st rf u ap d id2 kd2 st2 rf2 u2 ap2 d2 : Int) (s s2 : ByteArray) (a : Option Addr) (n c : Nat) (a2 : Option Addr) (n2 c2 : Nat) (w : World) (bL : Bool)
    (KL : Hid (∀ W : World, Below w.heap.size w W → Calls Tryz.prog 29 #[.agg #[.int .i64 u, .slice a n c, .int .i64 ap, .int .i64 d], .agg #[.int .i64 u2, .slice a2 n2 c2, .int .i64 ap2, .int .i64 d2]] W fun e w' => e = .returned (.bool bL) ∧ Below W.heap.size W w')) :
    Calls Tryz.prog 58 #[.agg #[.int .i64 id, .int .i64 kd, .string s, .int .i64 st, .int .i64 rf, .int .i64 u, .slice a n c, .int .i64 ap, .int .i64 d], .agg #[.int .i64 id2, .int .i64 kd2, .string s2, .int .i64 st2, .int .i64 rf2, .int .i64 u2, .slice a2 n2 c2, .int .i64 ap2, .int .i64 d2]] w
      fun e w' => e = .returned (.bool (decide (id = id2) && (decide (kd = kd2) && (decide (s = s2) && (decide (st = st2) && (decide (rf = rf2) && bL)))))) ∧ Below w.heap.size w w' := by
  have B0 : Below w.heap.size w ((w.alloc (.cells #[.int .i64 id, .int .i64 kd, .string s, .int .i64 st, .int .i64 rf, .int .i64 u, .slice a n c, .int .i64 ap, .int .i64 d] 49)).alloc (.cells #[.int .i64 id2, .int .i64 kd2, .string s2, .int .i64 st2, .int .i64 rf2, .int .i64 u2, .slice a2 n2 c2, .int .i64 ap2, .int .i64 d2] 49)) := (below_alloc _ _).alloc (by simp) _
  by_cases h0 : id = id2
  · have g0 : (id == id2) = true := by simp [h0]
    have H0 := Lib.hid h0
    clear h0
    by_cases h1 : kd = kd2
    · have g1 : (kd == kd2) = true := by simp [h1]
      have H1 := Lib.hid h1
      clear h1
      by_cases h2 : s = s2
      · have g2 : s.toList = s2.toList := by rw [h2]
        have H2 := Lib.hid h2
        clear h2
        by_cases h3 : st = st2
        · have g3 : (st == st2) = true := by simp [h3]
          have H3 := Lib.hid h3
          clear h3
          by_cases h4 : rf = rf2
          · have g4 : (rf == rf2) = true := by simp [h4]
            have H4 := Lib.hid h4
            clear h4
            go_enter Tryz.func58, Tryz.ntmps58
            go_wp2_with fail
            refine (KL.out _ B0).mono ?_
            rintro x w1 ⟨rfl, b1⟩
            go_wp2
            go_ret
            exact ⟨ret_bool (by simp [H0.out, H1.out, H2.out, H3.out, H4.out]), bel2 B0 b1⟩
          · have g4 : (rf == rf2) = false := by simp [h4]
            have H4 := Lib.hid h4
            clear h4
            go_enter Tryz.func58, Tryz.ntmps58
            go_wp2
            go_ret
            exact ⟨ret_bool (by simp [H4.out]), B0⟩
        · have g3 : (st == st2) = false := by simp [h3]
          have H3 := Lib.hid h3
          clear h3
          go_enter Tryz.func58, Tryz.ntmps58
          go_wp2
          go_ret
          exact ⟨ret_bool (by simp [H3.out]), B0⟩
      · have g2 : ¬ s.toList = s2.toList := fun q => h2 (bytes_ext (by rw [← ByteArray.toList_eq, ← ByteArray.toList_eq]; exact q))
        have g2' : (s.toList == s2.toList) = false := by simpa using g2
        have H2 := Lib.hid h2
        clear h2
        go_enter Tryz.func58, Tryz.ntmps58
        go_wp2
        go_ret
        exact ⟨ret_bool (by simp [H2.out]), B0⟩
    · have g1 : (kd == kd2) = false := by simp [h1]
      have H1 := Lib.hid h1
      clear h1
      go_enter Tryz.func58, Tryz.ntmps58
      go_wp2
      go_ret
      exact ⟨ret_bool (by simp [H1.out]), B0⟩
  · have g0 : (id == id2) = false := by simp [h0]
    have H0 := Lib.hid h0
    clear h0
    go_enter Tryz.func58, Tryz.ntmps58
    go_wp2
    go_ret
    exact ⟨ret_bool (by simp [H0.out]), B0⟩
theorem bsame_any (e f : BE) (w : World) (h : BeOk w e) (h2 : BeOk w f) :
    Calls Tryz.prog 58 #[blkV e.1 e.2.1 e.2.2.1 e.2.2.2, blkV f.1 f.2.1 f.2.2.1 f.2.2.2] w fun x w' => x = .returned (.bool (sB e.1 f.1)) ∧ Below w.heap.size w w' := by
  have hK := Lib.hid (fun W (hb : Below w.heap.size w W) => same_any e.1.lb f.1.lb _ _ _ _ _ _ W (h.1.over hb) (h2.1.over hb))
  have := bsame_walk e.1.id e.1.kd e.1.st e.1.rf e.1.lb.u e.1.lb.ap e.1.lb.d f.1.id f.1.kd f.1.st f.1.rf f.1.lb.u f.1.lb.ap f.1.lb.d ⟨e.1.tx.toArray⟩ ⟨f.1.tx.toArray⟩ _ _ _ _ _ _ w _ hK
  have ht : decide ((⟨e.1.tx.toArray⟩ : ByteArray) = ⟨f.1.tx.toArray⟩) = decide (e.1.tx = f.1.tx) := by
    by_cases q : e.1.tx = f.1.tx
    · rw [q]; simp
    · simp [q]
  rw [ht] at this
  exact this
set_option maxHeartbeats 4000000 in
theorem eqf_any (a : Option Addr) (n c : Nat) (es : List BE) (a2 : Option Addr) (n2 c2 : Nat) (fs : List BE) (w : World) (h : IsBlks w a n c es) (h2 : IsBlks w a2 n2 c2 fs) :
    Calls Tryz.prog 57 #[.slice a n c, .slice a2 n2 c2, .func (.func 58) #[] #[]] w fun x w' => x = .returned (.bool (sL (blks es) (blks fs))) ∧ Below w.heap.size w w' := by
  have hcm := h.2.2.1
  have hcm2 := h2.2.2.1
  have hnc := h.2.1
  have hnc2 := h2.2.1
  have HL := Lib.hid h.1
  have HL2 := Lib.hid h2.1
  have H := Lib.hid h
  have H2 := Lib.hid h2
  unfold maxLen at hcm hcm2
  clear h h2
  by_cases hn : n = n2
  · subst hn
    have hne : ((n : Int) != (n : Int)) = false := by simp
    go_enter Tryz.func57, Tryz.ntmps57
    go_wp2
    clear hne
    go_loopw [17, 7, 8, 9] (fun i _ _ _ wr => ∃ k : Nat, k ≤ n ∧ i = .int .i64 k ∧ Hid (∀ j e f, j < k → es[j]? = some e → fs[j]? = some f → e.1 = f.1) ∧ Below w.heap.size w wr) (fun i _ _ _ _ => n - (intOf i).toNat)
    case atStart => exact ⟨0, Nat.zero_le _, rfl, Lib.hid (fun j e f hj => by omega), Below.refl _ _⟩
    case round =>
      obtain ⟨k, hk, rfl, hall, bw⟩ := hrel
      by_cases hlt : k < n
      · obtain ⟨b, off, e, rfl, he, hok, h9⟩ := (H.out.over bw).at_ hlt
        obtain ⟨b2, off2, f, rfl, hf, hok2, h92⟩ := (H2.out.over bw).at_ hlt
        have HE := Lib.hid he
        have HF := Lib.hid hf
        obtain ⟨p0, p1, p2, p3, p4, p5, p6, p7, p8⟩ := h9
        obtain ⟨q0, q1, q2, q3, q4, q5, q6, q7, q8⟩ := h92
        have hb1 := World.block_lt_of_cell? wr _ p0
        have hb2 := World.block_lt_of_cell? wr _ q0
        simp only at hb1 hb2
        have B2 : Below wr.heap.size wr ((wr.alloc (.cells (elB e).toArray 49)).alloc (.cells (elB f).toArray 49)) := (below_alloc _ _).alloc (by simp) _
        have K := Lib.hid (bsame_any e f _ (hok.over B2) (hok2.over B2))
        have HB2 := Lib.hid B2
        clear he hf hok hok2 B2
        have hltn : (k : Int) < n := by omega
        go_wp2_with fail
        refine K.out.mono ?_
        rintro x w1 ⟨rfl, b1⟩
        have B1 := Lib.hid (bel2 (bel2 bw HB2.out) b1)
        clear b1 p0 p1 p2 p3 p4 p5 p6 p7 p8 q0 q1 q2 q3 q4 q5 q6 q7 q8 HB2 hb1 hb2
        cases hs : sB e.1 f.1
        · have HN : Hid (sL (blks es) (blks fs) = false) := Lib.hid (by
            rw [← Bool.not_eq_true, sL_iff]
            intro q
            have h3 : (blks es)[k]? = (blks fs)[k]? := by rw [q]
            simp only [blks, List.getElem?_map, HE.out, HF.out, Option.map_some, Option.some.injEq] at h3
            rw [← sB_iff, hs] at h3
            cases h3)
          clear hs
          go_wp2
          go_ret
          exact ⟨ret_bool HN.out.symm, B1.out⟩
        · have HS := Lib.hid ((sB_iff _ _).1 hs)
          clear hs
          go_wp2
          go_roundw
          case rel => exact ⟨k + 1, by omega, by go_num, Lib.hid (fun j e' f' hj he' hf' => by
            by_cases ej : j = k
            · subst ej; rw [HE.out] at he'; cases he'; rw [HF.out] at hf'; cases hf'; exact HS.out
            · exact hall.out j e' f' (by omega) he' hf'), B1.out⟩
          case measure => simp [intOf]; omega
      · obtain rfl : k = n := by omega
        have HY : Hid (sL (blks es) (blks fs) = true) := Lib.hid (by
          rw [sL_iff]
          apply List.ext_getElem?
          intro j
          simp only [blks, List.getElem?_map]
          by_cases hj : j < k
          · have e1 := List.getElem?_eq_getElem (l := es) (i := j) (by rw [HL.out]; exact hj)
            have e2 := List.getElem?_eq_getElem (l := fs) (i := j) (by rw [HL2.out]; exact hj)
            rw [e1, e2]
            simp only [Option.map_some]
            rw [hall.out j _ _ hj e1 e2]
          · rw [List.getElem?_eq_none (by rw [HL.out]; omega), List.getElem?_eq_none (by rw [HL2.out]; omega)])
        go_wp2
        go_ret
        exact ⟨ret_bool HY.out.symm, bw⟩
  · have HN : Hid (sL (blks es) (blks fs) = false) := Lib.hid (by
      rw [← Bool.not_eq_true, sL_iff]
      intro q
      apply hn
      rw [← HL.out, ← HL2.out]
      have := congrArg List.length q
      simpa [blks] using this)
    have h3 : ((n : Int) != (n2 : Int)) = true := by simp; omega
    go_enter Tryz.func57, Tryz.ntmps57
    go_wp2
    go_ret
    exact ⟨ret_bool HN.out.symm, Below.refl _ _⟩
set_option maxHeartbeats 1000000 in
theorem samel_any (a : Option Addr) (n c : Nat) (es : List BE) (a2 : Option Addr) (n2 c2 : Nat) (fs : List BE) (w : World) (h : IsBlks w a n c es) (h2 : IsBlks w a2 n2 c2 fs) :
    Calls Tryz.prog 28 #[.slice a n c, .slice a2 n2 c2] w fun x w' => x = .returned (.bool (sL (blks es) (blks fs))) ∧ Below w.heap.size w w' := by
  have K := Lib.hid (eqf_any a n c es a2 n2 c2 fs w h h2)
  clear h h2
  go_enter Tryz.func28, Tryz.ntmps28
  go_wp2_with fail
  refine K.out.mono ?_
  rintro x w1 ⟨rfl, b1⟩
  go_wp2
  go_ret
  exact ⟨rfl, b1⟩
end Go.Proofs.YtlhcckjfgpcohaaGreatDoor
