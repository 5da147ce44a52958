import Derived.Test.YtdhioalfgogcdaaGreatDoorBlkD4
namespace Go.Proofs.YtdhioalfgogcdaaGreatDoor
open Go.RowKit Go.MapKept
set_option maxRecDepth 100000
set_option linter.unusedSimpArgs false
set_option linter.unusedVariables false
def DecGot (r : List Blk × Int) (w : World) (x : Ending) (w' : World) : Prop :=
  ∃ a c es, x = .returned (.tuple #[.slice a r.1.length c, .int .i64 r.2]) ∧ blks es = r.1 ∧ IsBlks w' a r.1.length c es ∧ Below w.heap.size w w'
theorem nil_blks (w : World) : IsBlks w none 0 0 [] := ⟨rfl, Nat.le_refl _, by unfold maxLen; omega, by simp, .inl rfl⟩
set_option maxHeartbeats 4000000 in
theorem decode_any (s : ByteArray) (w : World) (hs : s.size ≤ maxLen) : Calls Tryz.prog 5 #[.string s] w (DecGot (decP s.data.toList) w) := by
  have D0 : RdAt (w.alloc (.cells #[.string s, .int .i64 0, .int .i64 0] 42)) w.heap.size s (0, 0) := heap_alloc_new w _
  have K := Lib.hid (readBs_any w.heap.size s (w.alloc (.cells #[.string s, .int .i64 0, .int .i64 0] 42)) (0, 0) hs D0)
  have HP := Lib.hid (show decP s.data.toList = (let l := rdL s.data.toList 24 (rdB s.data.toList) (0, 0); if l.2.2 ≠ 0 then ([], l.2.2) else if l.2.1 < s.size then ([], 10) else if vL l.1 = false then ([], 30) else (l.1, 0)) by unfold decP; rw [slen])
  have hsm : s.size ≤ maxLen := hs
  unfold maxLen at hsm
  clear D0 hs
  generalize decP s.data.toList = r at *
  generalize rdL s.data.toList 24 (rdB s.data.toList) (0, 0) = q at *
  obtain ⟨l, at', err⟩ := q
  simp only at HP
  go_enter Tryz.func5, Tryz.ntmps5
  go_wp2_with fail
  refine K.out.mono ?_
  rintro x w1 ⟨a, c, es, rfl, hes, hb, hd, hk⟩
  simp only at hes hb hd ⊢
  obtain ⟨d0, d1, d2⟩ := rd_cells hd
  simp only at d0 d1 d2
  have BW := Lib.hid ((hk.below (B := w.heap.size) (by simp) (Nat.le_refl _)))
  have BW2 : Hid (Below w.heap.size w w1) := Lib.hid ((below_alloc w (.cells #[.string s, .int .i64 0, .int .i64 0] 42)).trans BW.out)
  have KV := Lib.hid (vlist_any a l.length c es w1 hb)
  have HES := Lib.hid hes
  have HB := Lib.hid hb
  rw [hes] at KV
  clear hk hd hes hb K BW
  by_cases h0 : err = 0
  · subst h0
    have HP2 := HP.out
    rw [if_neg (by simp)] at HP2
    by_cases h1 : at' < s.size
    · rw [if_pos h1] at HP2
      have HR := Lib.hid HP2
      clear HP2 HP KV
      go_wp2
      go_ret2
      rw [HR.out]
      exact ⟨none, 0, [], rfl, rfl, nil_blks _, BW2.out⟩
    · rw [if_neg h1] at HP2
      cases hv : vL l
      · rw [if_pos hv] at HP2
        rw [hv] at KV
        have HR := Lib.hid HP2
        clear HP2 HP hv
        go_wp2_with fail
        refine KV.out.mono ?_
        rintro x w2 ⟨rfl, b2⟩
        have B2 := Lib.hid (bel2 BW2.out b2)
        clear b2
        go_wp2
        go_ret2
        rw [HR.out]
        exact ⟨none, 0, [], rfl, rfl, nil_blks _, B2.out⟩
      · rw [if_neg (by simp [hv])] at HP2
        rw [hv] at KV
        have HR := Lib.hid HP2
        clear HP2 HP hv
        go_wp2_with fail
        refine KV.out.mono ?_
        rintro x w2 ⟨rfl, b2⟩
        have B2 := Lib.hid (bel2 BW2.out b2)
        have HB2 := Lib.hid (HB.out.over b2)
        clear b2
        go_wp2
        go_ret2
        rw [HR.out]
        exact ⟨a, c, es, rfl, HES.out, HB2.out, B2.out⟩
  · have HR := Lib.hid (show r = ([], err) by rw [HP.out]; rw [if_pos h0])
    have g1 : (err != 0) = true := by simp [h0]
    clear HP KV h0
    go_wp2_with fail
    go_quiet (fail)
    go_wp2
    go_ret2
    rw [HR.out]
    exact ⟨none, 0, [], rfl, rfl, nil_blks _, below_drewN BW2.out _⟩
end Go.Proofs.YtdhioalfgogcdaaGreatDoor
