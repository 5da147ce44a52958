/- The reference's test of a block. -/
import Derived.Test.YtdhioalfgogcdaaGreatDoorRefText
namespace Go.Proofs.YtdhioalfgogcdaaGreatDoor
open Go.RowKit Go.MapKept
set_option maxRecDepth 100000
set_option linter.unusedSimpArgs false
set_option linter.unusedVariables false
theorem name_text {t : List UInt8} (h : nameB t = true) : textB t = true := by
  simp only [nameB, textB, inB, Bool.and_eq_true, decide_eq_true_eq, List.all_eq_true] at h ⊢
  refine ⟨by omega, fun c hc => ?_⟩
  have := h.2 c hc
  simp only [nmB, prB, Bool.or_eq_true, decide_eq_true_eq] at this ⊢
  omega
theorem kind_text {k : Int} {t : List UInt8} (h : kindT k t = true) : textB t = true := by
  unfold kindT at h
  split at h
  · exact h
  · split at h
    · exact name_text h
    · simp only [fillB, Bool.and_eq_true] at h; exact h.2
theorem vB_no_text {b : Blk} (h : textB b.tx = false) : vB b = false := by
  cases hv : vB b
  · rfl
  · simp only [vB, Bool.and_eq_true] at hv
    rw [kind_text hv.2.2.1] at h
    cases h
theorem vB_no_lab {b : Blk} (h : validB b.lb = false) : vB b = false := by simp [vB, h]
theorem vB_no_id {b : Blk} (h : ¬ (1 ≤ b.id ∧ b.id ≤ 1000)) : vB b = false := by
  simp only [vB, inB, decide_eq_false h, Bool.false_and, Bool.and_false]
theorem vB_is {b : Blk} (h1 : textB b.tx = true) (h2 : validB b.lb = true) (h3 : 1 ≤ b.id ∧ b.id ≤ 1000) : vB b = (inB b.kd 1 5 && (kindT b.kd b.tx && kindS b.kd b.st b.rf)) := by
  simp only [vB, h2, Bool.and_true]
  rw [show inB b.id 1 1000 = true from decide_eq_true h3, Bool.true_and]
set_option maxHeartbeats 16000000 in
theorem refvalid_any (b : Blk) (a : Option Addr) (n c : Nat) (w : World) (h : LabAt w a n c b.lb) (hs : b.tx.length ≤ maxLen) :
    Calls Tryz.prog 42 #[blkV b a n c] w fun e w' => e = .returned (.bool (vB b)) ∧ Below w.heap.size w w' := by
  have hs' : (⟨b.tx.toArray⟩ : ByteArray).size ≤ maxLen := by simpa [ByteArray.size] using hs
  have B0 := Lib.hid (below_alloc w (.cells #[.int .i64 b.id, .int .i64 b.kd, .string ⟨b.tx.toArray⟩, .int .i64 b.st, .int .i64 b.rf, .int .i64 b.lb.u, .slice a n c, .int .i64 b.lb.ap, .int .i64 b.lb.d] 33))
  have KT := Lib.hid (fun W => istext_any ⟨b.tx.toArray⟩ W hs')
  have KN := Lib.hid (fun W => isname_any ⟨b.tx.toArray⟩ W hs')
  rw [show (⟨b.tx.toArray⟩ : ByteArray).data.toList = b.tx from rfl] at KT KN
  have KL := Lib.hid (refValid_any b.lb a n c _ (h.over B0.out))
  clear h hs hs'
  obtain ⟨id, kd, tx, st, rf, lb⟩ := b
  unfold blkV
  simp only at *
  have V1 := Lib.hid (fun h => vB_no_text (b := ⟨id, kd, tx, st, rf, lb⟩) h)
  have V2 := Lib.hid (fun h => vB_no_lab (b := ⟨id, kd, tx, st, rf, lb⟩) h)
  have V3 := Lib.hid (fun h => vB_no_id (b := ⟨id, kd, tx, st, rf, lb⟩) h)
  have V4 := Lib.hid (fun h1 h2 h3 => vB_is (b := ⟨id, kd, tx, st, rf, lb⟩) h1 h2 h3)
  simp only at V1 V2 V3 V4
  have HF := Lib.hid (show ∀ k, k ≠ 3 → k ≠ 5 → kindT k tx = (decide (tx ≠ []) && textB tx) from fun k h1 h2 => by unfold kindT fillB; rw [if_neg h1, if_neg h2])
  have HN := Lib.hid (show kindT 5 tx = nameB tx from rfl)
  have HT3 := Lib.hid (show kindT 3 tx = textB tx from rfl)
  generalize vB ⟨id, kd, tx, st, rf, lb⟩ = R at *

  go_enter Tryz.func42, Tryz.ntmps42
  go_wp2_with fail
  refine (KT.out _).mono ?_
  rintro e w1 ⟨rfl, rfl⟩
  go_wp2_with fail
  refine KL.out.mono ?_
  rintro e w2 ⟨rfl, b2⟩
  have B2 := Lib.hid (bel2 B0.out b2)
  have c0 : w2.cell? ⟨w.heap.size, 0, none⟩ = some (.int .i64 id) := cellOver b2 (by simp)
  have c1 : w2.cell? ⟨w.heap.size, 1, none⟩ = some (.int .i64 kd) := cellOver b2 (by simp)
  have c2 : w2.cell? ⟨w.heap.size, 2, none⟩ = some (.string ⟨tx.toArray⟩) := cellOver b2 (by simp)
  have c3 : w2.cell? ⟨w.heap.size, 3, none⟩ = some (.int .i64 st) := cellOver b2 (by simp)
  have c4 : w2.cell? ⟨w.heap.size, 4, none⟩ = some (.int .i64 rf) := cellOver b2 (by simp)
  clear b2 KT KL B0
  by_cases i1 : 1 ≤ id
  rotate_left
  · have HV := Lib.hid (V3.out (by omega))
    have i1' : id < 1 := by omega
    clear i1
    go_wp2
    go_ret
    exact ⟨ret_bool HV.out.symm, B2.out⟩
  by_cases i2 : id ≤ 1000
  rotate_left
  · have HV := Lib.hid (V3.out (by omega))
    have i1' : ¬ id < 1 := by omega
    have i2' : 1000 < id := by omega
    clear i1 i2
    go_wp2
    go_ret
    exact ⟨ret_bool HV.out.symm, B2.out⟩
  have i1' : ¬ id < 1 := by omega
  have i2' : ¬ 1000 < id := by omega
  cases ht : textB tx
  · have HV := Lib.hid (V1.out ht)
    go_wp2
    go_ret
    exact ⟨ret_bool HV.out.symm, B2.out⟩
  cases hl : validB lb
  · have HV := Lib.hid (V2.out hl)
    go_wp2
    go_ret
    exact ⟨ret_bool HV.out.symm, B2.out⟩
  have HV := Lib.hid (V4.out ht hl ⟨i1, i2⟩)
  clear V1 V2 V3 V4 i1 i2
  have HT := Lib.hid ht
  clear hl ht
  by_cases k1 : kd = 1
  · subst k1
    have HK := Lib.hid (show kindT 1 tx = decide (tx ≠ []) by rw [HF.out 1 (by decide) (by decide), HT.out, Bool.and_true])
    have HI := Lib.hid (show inB 1 1 5 = true from rfl)
    have HQ := Lib.hid (show kindS 1 st rf = noSrc st rf from rfl)
    by_cases x0 : tx = []
    · have xe : tx.isEmpty = true := by simp [x0]
      have HD := Lib.hid (show decide (tx ≠ []) = false by simp [x0])
      have xq : (⟨tx.toArray⟩ : ByteArray).toList = [] := by simp [x0]
      clear HT
      go_wp2
      go_ret
      exact ⟨ret_bool (by rw [HV.out]; simp only [HI.out, HK.out, HQ.out, HD.out, Bool.true_and, Bool.false_and]), B2.out⟩
    · have xe : tx.isEmpty = false := by simp [x0]
      have HD := Lib.hid (show decide (tx ≠ []) = true by simp [x0])
      clear HT
      by_cases s0 : st = 0
      · by_cases r0 : rf = 0
        · have HS := Lib.hid (show noSrc st rf = true by simp [noSrc, s0, r0])
          have q1 : (st == 0) = true := by simpa using s0
          have q2 : (rf == 0) = true := by simpa using r0
          clear s0 r0
          go_wp2
          go_ret
          exact ⟨ret_bool (by rw [HV.out]; simp only [HI.out, HK.out, HQ.out, HD.out, HS.out, Bool.true_and]), B2.out⟩
        · have HS := Lib.hid (show noSrc st rf = false by simp [noSrc, r0])
          have q1 : (st == 0) = true := by simpa using s0
          have q2 : (rf == 0) = false := by simpa using r0
          clear s0 r0
          go_wp2
          go_ret
          exact ⟨ret_bool (by rw [HV.out]; simp only [HI.out, HK.out, HQ.out, HD.out, HS.out, Bool.true_and]), B2.out⟩
      · have HS := Lib.hid (show noSrc st rf = false by simp [noSrc, s0])
        have q1 : (st == 0) = false := by simpa using s0
        clear s0
        go_wp2
        go_ret
        exact ⟨ret_bool (by rw [HV.out]; simp only [HI.out, HK.out, HQ.out, HD.out, HS.out, Bool.true_and]), B2.out⟩
  by_cases k2 : kd = 2
  · subst k2
    have HK := Lib.hid (show kindT 2 tx = decide (tx ≠ []) by rw [HF.out 2 (by decide) (by decide), HT.out, Bool.and_true])
    have HI := Lib.hid (show inB 2 1 5 = true from rfl)
    have HQ := Lib.hid (show kindS 2 st rf = noSrc st rf from rfl)
    by_cases x0 : tx = []
    · have xe : tx.isEmpty = true := by simp [x0]
      have HD := Lib.hid (show decide (tx ≠ []) = false by simp [x0])
      have xq : (⟨tx.toArray⟩ : ByteArray).toList = [] := by simp [x0]
      clear HT
      go_wp2
      go_ret
      exact ⟨ret_bool (by rw [HV.out]; simp only [HI.out, HK.out, HQ.out, HD.out, Bool.true_and, Bool.false_and]), B2.out⟩
    · have xe : tx.isEmpty = false := by simp [x0]
      have HD := Lib.hid (show decide (tx ≠ []) = true by simp [x0])
      clear HT
      by_cases s0 : st = 0
      · by_cases r0 : rf = 0
        · have HS := Lib.hid (show noSrc st rf = true by simp [noSrc, s0, r0])
          have q1 : (st == 0) = true := by simpa using s0
          have q2 : (rf == 0) = true := by simpa using r0
          clear s0 r0
          go_wp2
          go_ret
          exact ⟨ret_bool (by rw [HV.out]; simp only [HI.out, HK.out, HQ.out, HD.out, HS.out, Bool.true_and]), B2.out⟩
        · have HS := Lib.hid (show noSrc st rf = false by simp [noSrc, r0])
          have q1 : (st == 0) = true := by simpa using s0
          have q2 : (rf == 0) = false := by simpa using r0
          clear s0 r0
          go_wp2
          go_ret
          exact ⟨ret_bool (by rw [HV.out]; simp only [HI.out, HK.out, HQ.out, HD.out, HS.out, Bool.true_and]), B2.out⟩
      · have HS := Lib.hid (show noSrc st rf = false by simp [noSrc, s0])
        have q1 : (st == 0) = false := by simpa using s0
        clear s0
        go_wp2
        go_ret
        exact ⟨ret_bool (by rw [HV.out]; simp only [HI.out, HK.out, HQ.out, HD.out, HS.out, Bool.true_and]), B2.out⟩
  by_cases k4 : kd = 4
  · subst k4
    have HK := Lib.hid (show kindT 4 tx = decide (tx ≠ []) by rw [HF.out 4 (by decide) (by decide), HT.out, Bool.and_true])
    have HI := Lib.hid (show inB 4 1 5 = true from rfl)
    have HQ := Lib.hid (show kindS 4 st rf = noSrc st rf from rfl)
    by_cases x0 : tx = []
    · have xe : tx.isEmpty = true := by simp [x0]
      have HD := Lib.hid (show decide (tx ≠ []) = false by simp [x0])
      have xq : (⟨tx.toArray⟩ : ByteArray).toList = [] := by simp [x0]
      clear HT
      go_wp2
      go_ret
      exact ⟨ret_bool (by rw [HV.out]; simp only [HI.out, HK.out, HQ.out, HD.out, Bool.true_and, Bool.false_and]), B2.out⟩
    · have xe : tx.isEmpty = false := by simp [x0]
      have HD := Lib.hid (show decide (tx ≠ []) = true by simp [x0])
      clear HT
      by_cases s0 : st = 0
      · by_cases r0 : rf = 0
        · have HS := Lib.hid (show noSrc st rf = true by simp [noSrc, s0, r0])
          have q1 : (st == 0) = true := by simpa using s0
          have q2 : (rf == 0) = true := by simpa using r0
          clear s0 r0
          go_wp2
          go_ret
          exact ⟨ret_bool (by rw [HV.out]; simp only [HI.out, HK.out, HQ.out, HD.out, HS.out, Bool.true_and]), B2.out⟩
        · have HS := Lib.hid (show noSrc st rf = false by simp [noSrc, r0])
          have q1 : (st == 0) = true := by simpa using s0
          have q2 : (rf == 0) = false := by simpa using r0
          clear s0 r0
          go_wp2
          go_ret
          exact ⟨ret_bool (by rw [HV.out]; simp only [HI.out, HK.out, HQ.out, HD.out, HS.out, Bool.true_and]), B2.out⟩
      · have HS := Lib.hid (show noSrc st rf = false by simp [noSrc, s0])
        have q1 : (st == 0) = false := by simpa using s0
        clear s0
        go_wp2
        go_ret
        exact ⟨ret_bool (by rw [HV.out]; simp only [HI.out, HK.out, HQ.out, HD.out, HS.out, Bool.true_and]), B2.out⟩
  by_cases k5 : kd = 5
  · subst k5
    have HI := Lib.hid (show inB 5 1 5 = true from rfl)
    have HQ := Lib.hid (show kindS 5 st rf = noSrc st rf from rfl)
    cases hn : nameB tx
    · have HM := Lib.hid hn
      rw [hn] at KN
      clear hn
      go_wp2_with fail
      refine (KN.out _).mono ?_
      rintro e w3 ⟨rfl, rfl⟩
      go_wp2
      go_ret
      exact ⟨ret_bool (by rw [HV.out]; simp only [HI.out, HN.out, HM.out, Bool.true_and, Bool.false_and]), B2.out⟩
    · have HM := Lib.hid hn
      rw [hn] at KN
      clear hn
      by_cases s0 : st = 0
      · by_cases r0 : rf = 0
        · have HS := Lib.hid (show noSrc st rf = true by simp [noSrc, s0, r0])
          have q1 : (st == 0) = true := by simpa using s0
          have q2 : (rf == 0) = true := by simpa using r0
          clear s0 r0
          go_wp2_with fail
          refine (KN.out _).mono ?_
          rintro e w3 ⟨rfl, rfl⟩
          go_wp2
          go_ret
          exact ⟨ret_bool (by rw [HV.out]; simp only [HI.out, HN.out, HM.out, HQ.out, HS.out, Bool.true_and]), B2.out⟩
        · have HS := Lib.hid (show noSrc st rf = false by simp [noSrc, r0])
          have q1 : (st == 0) = true := by simpa using s0
          have q2 : (rf == 0) = false := by simpa using r0
          clear s0 r0
          go_wp2_with fail
          refine (KN.out _).mono ?_
          rintro e w3 ⟨rfl, rfl⟩
          go_wp2
          go_ret
          exact ⟨ret_bool (by rw [HV.out]; simp only [HI.out, HN.out, HM.out, HQ.out, HS.out, Bool.true_and]), B2.out⟩
      · have HS := Lib.hid (show noSrc st rf = false by simp [noSrc, s0])
        have q1 : (st == 0) = false := by simpa using s0
        clear s0
        go_wp2_with fail
        refine (KN.out _).mono ?_
        rintro e w3 ⟨rfl, rfl⟩
        go_wp2
        go_ret
        exact ⟨ret_bool (by rw [HV.out]; simp only [HI.out, HN.out, HM.out, HQ.out, HS.out, Bool.true_and]), B2.out⟩
  by_cases k3 : kd = 3
  · subst k3
    have HI := Lib.hid (show inB 3 1 5 = true from rfl)
    have HQ := Lib.hid (show kindS 3 st rf = (decide (1 ≤ st ∧ st ≤ 64) && decide (1 ≤ rf ∧ rf ≤ 1000)) from rfl)
    have HK := Lib.hid (show kindT 3 tx = true by rw [HT3.out, HT.out])
    by_cases a1 : 1 ≤ st
    · by_cases a2 : st ≤ 64
      · by_cases a3 : 1 ≤ rf
        · by_cases a4 : rf ≤ 1000
          · go_wp2
            go_ret
            exact ⟨ret_bool (by rw [HV.out]; first | (simp [HI.out, HK.out, HQ.out, a1, a2, a3, a4]; done) | (simp [HI.out, HK.out, HQ.out, a1, a2, a3, a4]; omega)), B2.out⟩
          · go_wp2
            go_ret
            exact ⟨ret_bool (by rw [HV.out]; first | (simp [HI.out, HK.out, HQ.out, a1, a2, a3, a4]; done) | (simp [HI.out, HK.out, HQ.out, a1, a2, a3, a4]; omega)), B2.out⟩
        · go_wp2
          go_ret
          exact ⟨ret_bool (by rw [HV.out]; first | (simp [HI.out, HK.out, HQ.out, a1, a2, a3]; done) | (simp [HI.out, HK.out, HQ.out, a1, a2, a3]; omega)), B2.out⟩
      · go_wp2
        go_ret
        exact ⟨ret_bool (by rw [HV.out]; first | (simp [HI.out, HK.out, HQ.out, a1, a2]; done) | (simp [HI.out, HK.out, HQ.out, a1, a2]; omega)), B2.out⟩
    · go_wp2
      go_ret
      exact ⟨ret_bool (by rw [HV.out]; first | (simp [HI.out, HK.out, HQ.out, a1]; done) | (simp [HI.out, HK.out, HQ.out, a1]; omega)), B2.out⟩
  have e1 : (kd == 1) = false := by simpa using k1
  have e2 : (kd == 2) = false := by simpa using k2
  have e3 : (kd == 3) = false := by simpa using k3
  have e4 : (kd == 4) = false := by simpa using k4
  have e5 : (kd == 5) = false := by simpa using k5
  have HI := Lib.hid (show inB kd 1 5 = false from decide_eq_false (by omega))
  clear k1 k2 k3 k4 k5
  go_wp2
  go_ret
  exact ⟨ret_bool (by rw [HV.out, HI.out, Bool.false_and]), B2.out⟩
end Go.Proofs.YtdhioalfgogcdaaGreatDoor
