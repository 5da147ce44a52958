/- The reference implementation: Join. -/
import Derived.Test.YthpginepnleokaaRef02
import Derived.Deep.RegionHeld3
import Derived.RegionTactic
import Derived.Deep.CutRange
namespace Go.Proofs.Ythpginepnleokaa
open Go.RowKit
set_option linter.unusedSimpArgs false
set_option linter.unusedVariables false
set_option linter.unnecessarySimpa false
def uniTo (a b : List Int) (k : Nat) : List Int := (idsTo k).filter fun z => hasB a z || hasB b z
theorem uniTo_yes (a b : List Int) (k : Nat) (h : (hasB a ((k : Int) + 1) || hasB b ((k : Int) + 1)) = true) : uniTo a b (k + 1) = uniTo a b k ++ [(k : Int) + 1] := by
  unfold uniTo; rw [idsTo_succ, List.filter_append]; simp only [List.filter_cons, h, if_true, List.filter_nil]
theorem uniTo_no (a b : List Int) (k : Nat) (h : (hasB a ((k : Int) + 1) || hasB b ((k : Int) + 1)) = false) : uniTo a b (k + 1) = uniTo a b k := by
  unfold uniTo; rw [idsTo_succ, List.filter_append]; simp only [List.filter_cons, h, List.filter_nil]; simp
theorem uniTo_len (a b : List Int) (k : Nat) : (uniTo a b k).length ≤ k := by
  have := List.length_filter_le (fun z => hasB a z || hasB b z) (idsTo k)
  simpa [uniTo, idsTo] using this
theorem uniTo_end (a b : List Int) : uniTo a b 64 = uni a b := by unfold uniTo uni hasB; rw [idsTo_ids]
def orTo (a b : Int) : Nat → Int
  | 0 => 0
  | k + 1 => orTo a b k + if bitB a k || bitB b k then 2 ^ k else 0
theorem orTo_fin : ∀ a b : Fin 16, orTo ((a : Nat) : Int) ((b : Nat) : Int) 4 = orD ((a : Nat) : Int) ((b : Nat) : Int) := by decide +kernel
theorem orTo_end {a b : Int} (ha : 0 ≤ a ∧ a ≤ 15) (hb : 0 ≤ b ∧ b ≤ 15) : orTo a b 4 = orD a b := by
  obtain ⟨x, rfl⟩ := cast15 ha
  obtain ⟨y, rfl⟩ := cast15 hb
  exact orTo_fin x y
theorem orTo_yes (a b : Int) (k : Nat) (h : (bitB a k || bitB b k) = true) : orTo a b (k + 1) = orTo a b k + 2 ^ k := by simp only [orTo, h, if_true]
theorem orTo_no (a b : Int) (k : Nat) (h : (bitB a k || bitB b k) = false) : orTo a b (k + 1) = orTo a b k := by simp [orTo, h]
theorem pow_small {k : Nat} (h : k < 4) {y : Int} (hy : y = 2 ^ k) : y ≤ 8 ∧ 2 * y = 2 ^ (k + 1) := by
  subst hy
  have : k = 0 ∨ k = 1 ∨ k = 2 ∨ k = 3 := by omega
  rcases this with rfl | rfl | rfl | rfl <;> decide
set_option maxRecDepth 100000 in
set_option maxHeartbeats 8000000 in
theorem refJoin_yes (l m : Lab) (a : Option Addr) (n c : Nat) (a2 : Option Addr) (n2 c2 : Nat) (w : World) (h : LabAt w a n c l) (h2 : LabAt w a2 n2 c2 m) (o1 : Ok l) (o2 : Ok m) :
    Calls Try.prog 23 #[.agg #[.int .i64 l.u, .slice a n c, .int .i64 l.ap, .int .i64 l.d], .agg #[.int .i64 m.u, .slice a2 n2 c2, .int .i64 m.ap, .int .i64 m.d]] w (LabGot (joinV l m) w) := by
  obtain ⟨hb0, hb1, hb2, bw⟩ := three_allocs w (.cells #[.int .i64 l.u, .slice a n c, .int .i64 l.ap, .int .i64 l.d] 26) (.cells #[.int .i64 m.u, .slice a2 n2 c2, .int .i64 m.ap, .int .i64 m.d] 26) (.cells #[.int .i64 0, .slice none 0 0, .int .i64 0, .int .i64 0] 26)
  have HA := Lib.hid hb0
  have HB := Lib.hid hb1
  have HZ := Lib.hid hb2
  have LA := Lib.hid (h.over bw)
  have LB := Lib.hid (h2.over bw)
  have K1 := Lib.hid (fun W hh => (validB_of o1) ▸ refValid_any l a n c W hh)
  have K2 := Lib.hid (fun W hh => (validB_of o2) ▸ refValid_any m a2 n2 c2 W hh)
  have OKJ := Lib.hid (joinV_ok o1 o2)
  obtain ⟨⟨u10, u11⟩, -, -, ⟨p10, p11⟩, d10, d11⟩ := o1
  obtain ⟨⟨u20, u21⟩, -, -, ⟨p20, p21⟩, d20, d21⟩ := o2
  obtain ⟨i0, hi, hz0, hz1, hz2⟩ := info_parts intInfo
  have OREND := Lib.hid (orTo_end (a := l.d) (b := m.d) ⟨d10, d11⟩ ⟨d20, d21⟩)
  have KB1 := Lib.hid (fun (r : Nat) W hlr => bit_any l.d r W ⟨d10, d11⟩ hlr)
  have KB2 := Lib.hid (fun (r : Nat) W hlr => bit_any m.d r W ⟨d20, d21⟩ hlr)
  clear hb0 hb1 hb2 h h2
  go_enter Try.func23, Try.ntmps23
  obtain ⟨haq0, haq1, haq2, haq3⟩ := cells4 HA.out
  obtain ⟨hbq0, hbq1, hbq2, hbq3⟩ := cells4 HB.out
  obtain ⟨hzq0, hzq1, hzq2, hzq3⟩ := cells4 HZ.out
  go_wp2_with fail
  refine (K1.out _ LA.out).mono ?_
  rintro e w1 ⟨rfl, bq⟩
  replace HA := Lib.hid (blockOver bq HA.out)
  replace HB := Lib.hid (blockOver bq HB.out)
  replace HZ := Lib.hid (blockOver bq HZ.out)
  replace LA := Lib.hid (LabAt.over bq LA.out)
  replace LB := Lib.hid (LabAt.over bq LB.out)
  replace bw := bel2 bw bq
  clear bq haq0 haq1 haq2 haq3 hbq0 hbq1 hbq2 hbq3 hzq0 hzq1 hzq2 hzq3
  obtain ⟨haq0, haq1, haq2, haq3⟩ := cells4 HA.out
  obtain ⟨hbq0, hbq1, hbq2, hbq3⟩ := cells4 HB.out
  obtain ⟨hzq0, hzq1, hzq2, hzq3⟩ := cells4 HZ.out
  go_wp2_with fail
  refine (K2.out _ LB.out).mono ?_
  rintro e w2 ⟨rfl, bq⟩
  replace HA := Lib.hid (blockOver bq HA.out)
  replace HB := Lib.hid (blockOver bq HB.out)
  replace HZ := Lib.hid (blockOver bq HZ.out)
  replace LA := Lib.hid (LabAt.over bq LA.out)
  replace LB := Lib.hid (LabAt.over bq LB.out)
  replace bw := bel2 bw bq
  clear bq haq0 haq1 haq2 haq3 hbq0 hbq1 hbq2 hbq3 hzq0 hzq1 hzq2 hzq3
  have hz2' : w.heap.size + 1 + 1 < w2.heap.size := (Array.getElem?_eq_some_iff.1 HZ.out).1
  have hz1' : w.heap.size + 1 < w2.heap.size := by omega
  have hz0' : w.heap.size < w2.heap.size := by omega
  obtain ⟨p0, p1, p2, p3⟩ := cells4 HA.out
  obtain ⟨q0, q1, q2, q3⟩ := cells4 HB.out
  go_upto_if 32 with (fail)
  go_cut [] from 33 to 35 (fun wr => wr.heap[w2.heap.size]? = some (.cells #[.int .i64 (max l.u m.u), .slice none 0 0, .int .i64 l.ap, .int .i64 l.d] 26 (0, 0)) ∧ Below w2.heap.size w2 wr)
  case first =>
    by_cases h1 : l.u < m.u
    · have e1 : max l.u m.u = m.u := by omega
      have E1 := Lib.hid e1
      clear e1
      go_wp2_with fail
      go_meet
      exact ⟨by rw [E1.out]; exact heap_alloc_new w2 _, below_alloc _ _⟩
    · have e1 : max l.u m.u = l.u := by omega
      have E1 := Lib.hid e1
      clear e1
      go_wp2_with fail
      go_meet
      exact ⟨by rw [E1.out]; exact heap_alloc_new w2 _, below_alloc _ _⟩
  case rest =>
    obtain ⟨hg, bc⟩ := hcut
    have HG := Lib.hid hg
    clear p0 p1 p2 p3 q0 q1 q2 q3 hg
    obtain ⟨q0, q1, q2, q3⟩ := cells4 (blockOver bc HB.out)
    obtain ⟨g0, g1, g2, g3⟩ := cells4 HG.out
    obtain ⟨w3, hw3⟩ : ∃ w3, wc = w3 := ⟨_, rfl⟩
    rw [hw3] at HG bc q0 q1 q2 q3 g0 g1 g2 g3 ⊢
    clear hw3
    go_upto_if 40 with (fail)
    go_cut [] from 41 to 43 (fun wr => wr.heap[w2.heap.size]? = some (.cells #[.int .i64 (max l.u m.u), .slice none 0 0, .int .i64 (max l.ap m.ap), .int .i64 l.d] 26 (0, 0)) ∧ Below w2.heap.size w2 wr)
    case first =>
      have f2 := Joins.unfrozen_of_block HG.out 2
      by_cases h1 : l.ap < m.ap
      · have e1 : max l.ap m.ap = m.ap := by omega
        have E1 := Lib.hid e1
        clear e1
        go_wp2_with fail
        go_meet
        exact ⟨by rw [E1.out]; exact Joins.block_setCell HG.out _, bc.setCell (by simp) _⟩
      · have e1 : max l.ap m.ap = l.ap := by omega
        have E1 := Lib.hid e1
        clear e1
        go_wp2_with fail
        go_meet
        exact ⟨by rw [E1.out]; exact HG.out, bc⟩
    case rest =>
      obtain ⟨hg, bc2⟩ := hcut
      clear q0 q1 q2 q3 g0 g1 g2 g3 HG bc
      have B3 : w2.heap.size + 1 ≤ wc.heap.size := by have := (Array.getElem?_eq_some_iff.1 hg).1; omega
      obtain ⟨gg, hgg⟩ : ∃ gg, w2.heap.size = gg := ⟨_, rfl⟩
      rw [hgg] at hg bc2 B3 hz0' hz1' hz2'
      try rw [hgg]
      obtain ⟨U, hU⟩ : ∃ U, max l.u m.u = U := ⟨_, rfl⟩
      obtain ⟨P, hP⟩ : ∃ P, max l.ap m.ap = P := ⟨_, rfl⟩
      have HU := Lib.hid hU
      have HP := Lib.hid hP
      rw [hU, hP] at hg
      clear hU hP
      have HGG := Lib.hid hgg
      clear hgg
      go_wp2_with fail
      go_loopw [8, 9, 10] (fun i _ _ wr => ∃ (k : Nat) (v : Value), k ≤ 64 ∧ i = .int .i64 ((k : Int) + 1) ∧ wr.heap[gg]? = some (.cells #[.int .i64 U, v, .int .i64 P, .int .i64 l.d] 26 (0, 0)) ∧
         wr.ownsRow (gg + 1) 3 1 v (uniTo l.af m.af k).length ((uniTo l.af m.af k).map (Value.int .i64)) ∧ gg + 1 ≤ wr.heap.size ∧ Below gg w2 wr) (fun i _ _ _ => 65 - (intOf i).toNat)
      case atStart => exact ⟨0, _, by omega, rfl, hg, by simpa [uniTo, idsTo] using World.ownsRow_nil _ _ _ _, B3, bc2⟩
      case round =>
        obtain ⟨k, v, hk, rfl, hg, hown, hsz, bel⟩ := hrel
        have bel' : Below w2.heap.size w2 wr := by rw [HGG.out]; exact bel
        have HBE := Lib.hid bel'
        clear bel'
        obtain ⟨p0, p1, p2, p3⟩ := cells4 (blockOver HBE.out HA.out)
        obtain ⟨q0, q1, q2, q3⟩ := cells4 (blockOver HBE.out HB.out)
        have cv : wr.cell? ⟨gg, 1, none⟩ = some v := by rw [Joins.cell_of_block hg]; rfl
        have f2 : wr.frozen? ⟨gg, 1, none⟩ = false := Joins.unfrozen_of_block hg 1
        have kk0 : (0 : Int) ≤ k := by omega
        by_cases hlt : k < 64
        · have hle : (k : Int) + 1 ≤ 64 := by omega
          have KH1 := Lib.hid (has_any a n c l.af ((k : Int) + 1) wr (LA.out.over HBE.out).1)
          have KH2 := Lib.hid (has_any a2 n2 c2 m.af ((k : Int) + 1) wr (LB.out.over HBE.out).1)
          have UY := Lib.hid (uniTo_yes l.af m.af k)
          have UN := Lib.hid (uniTo_no l.af m.af k)
          have hlen := uniTo_len l.af m.af k
          have OWN := Lib.hid hown
          have HG := Lib.hid hg
          clear hg hown
          generalize hasB l.af ((k : Int) + 1) = x at *
          generalize hasB m.af ((k : Int) + 1) = y at *
          by_cases hxy : (x || y) = true
          · have E := Lib.hid (UY.out hxy)
            clear UY UN
            have : (x = true) ∨ (x = false ∧ y = true) := by cases x <;> simp_all
            clear hxy
            rcases this with rfl | ⟨rfl, rfl⟩
            all_goals
              go_wp2_with fail
              refine KH1.out.mono ?_
              rintro e w' ⟨rfl, rfl⟩
              go_wp2_with fail
              refine KH2.out.mono ?_
              rintro e w' ⟨rfl, rfl⟩
              go_wp2_with (at_builtin; refine wpList_append_own _ rfl (.tmp 61) (.tmp 63) 23 rfl (gg + 1) 3 i0 (.int .i64 0) 1 8 Try.underlying23 hi hz0 hz1 hz2 rfl (by decide) v (uniTo l.af m.af k).length ((uniTo l.af m.af k).map (Value.int .i64)) rfl (OWN.out.alloc _) ⟨wr.heap.size, 0, none⟩ 1 1 [.int .i64 ((k : Int) + 1)] rfl rfl (cell_one_new _ _ _) (by simp [Value.oneCell']) (by unfold maxLen; omega) (by omega) (by simp; omega) ?_; intro v' w1 hown1 hgr _; obtain ⟨a', c', rfl⟩ := own_slice hown1; have g2 : w1.heap[gg]? = some (.cells #[.int .i64 U, v, .int .i64 P, .int .i64 l.d] 26 (0, 0)) := (hgr.block _ (by simp; omega) (fun e => by have := (OWN.out.lt _ e.symm).1; omega)).trans ((Below.heap_alloc _ _ _ (by omega)).trans HG.out); have cv1 : w1.cell? ⟨gg, 1, none⟩ = some v := (by rw [Joins.cell_of_block g2]; rfl); have fv1 : w1.frozen? ⟨gg, 1, none⟩ = false := Joins.unfrozen_of_block g2 1)
              have bel1 : Below gg w2 w1 := (bel.alloc (by omega) _).grown hgr (by simp; omega) (fun q hq => by have := (OWN.out.lt _ hq).1; omega)
              refine ⟨⟨k + 1, .slice a' ((uniTo l.af m.af k).length + 1) c', by omega, by go_num, ?_, ?_, ?_, ?_⟩, by simp [intOf]; omega⟩
              · exact Joins.block_setCell g2 _
              · rw [E.out, List.map_append, List.length_append]
                exact (hown1.kept (Lib.grownBy_setCell _ _ _ _) (by
                  rcases hv : Value.ownBlock _ with _ | q
                  · exact .inl rfl
                  · right; intro e
                    have := (hown1.lt _ hv).1
                    injection e with e
                    omega))
              · have := hgr.size; simp at this ⊢; omega
              · exact bel1.setCell (by simp) _
          · have hx : x = false := by cases x <;> simp_all
            have hy : y = false := by cases y <;> simp_all
            subst hx; subst hy
            have E := Lib.hid (UN.out rfl)
            clear UY UN hxy
            go_wp2_with fail
            refine KH1.out.mono ?_
            rintro e w' ⟨rfl, rfl⟩
            go_wp2_with fail
            refine KH2.out.mono ?_
            rintro e w' ⟨rfl, rfl⟩
            go_wp2
            exact ⟨⟨k + 1, v, by omega, by go_num, HG.out, by rw [E.out]; exact OWN.out, hsz, bel⟩, by simp [intOf]; omega⟩
        · obtain rfl : k = 64 := by omega
          rw [show (((64 : Nat) : Int) + 1) = 65 from rfl]
          have EU := Lib.hid (uniTo_end l.af m.af)
          have f3 : wr.frozen? ⟨gg, 3, none⟩ = false := Joins.unfrozen_of_block hg 3
          have c3 : wr.cell? ⟨gg, 3, none⟩ = some (.int .i64 l.d) := by rw [Joins.cell_of_block hg]; rfl
          rw [uniTo_end] at hown
          obtain ⟨a', c', rfl⟩ := own_slice hown
          have HG := Lib.hid hg
          have OWN := Lib.hid hown
          clear hg hown
          generalize hzs : uni l.af m.af = zs at *
          have HZS := Lib.hid hzs
          have HNE : Hid (Value.ownBlock (Value.slice a' zs.length c') = none ∨ Value.ownBlock (Value.slice a' zs.length c') ≠ some gg) := Lib.hid (by
            rcases hv : Value.ownBlock _ with _ | q
            · exact .inl rfl
            · right; intro e
              have := (OWN.out.lt _ hv).1
              injection e with e
              omega)
          clear hzs EU
          go_wp2_with fail
          have hg2 : (wr.setCell ⟨gg, 3, none⟩ (.int .i64 0)).heap[gg]? = some (.cells #[.int .i64 U, .slice a' zs.length c', .int .i64 P, .int .i64 0] 26 (0, 0)) := Joins.block_setCell HG.out _
          have own2 := OWN.out.kept (Lib.grownBy_setCell wr gg 3 (.int .i64 0)) HNE.out
          have bel2' : Below gg w2 (wr.setCell ⟨gg, 3, none⟩ (.int .i64 0)) := bel.setCell (by simp) _
          obtain ⟨W2, hW2⟩ : ∃ W2, wr.setCell ⟨gg, 3, none⟩ (.int .i64 0) = W2 := ⟨_, rfl⟩
          rw [hW2] at hg2 own2 bel2' ⊢
          clear hW2 bel OWN HG HBE hsz p0 p1 p2 p3 q0 q1 q2 q3 cv f2 f3 c3
          go_loopw [11, 12, 13, 14] (fun v i _ _ wr => ∃ (k : Nat) (y d' : Int), k ≤ 4 ∧ i = .int .i64 k ∧ v = .int .i64 y ∧ Hid (y = 2 ^ k) ∧ Hid (d' = orTo l.d m.d k) ∧ 1 ≤ y ∧ y ≤ 16 ∧ 0 ≤ d' ∧ d' < y ∧ wr.heap[gg]? = some (.cells #[.int .i64 U, .slice a' zs.length c', .int .i64 P, .int .i64 d'] 26 (0, 0)) ∧ wr.ownsRow (gg + 1) 3 1 (.slice a' zs.length c') zs.length (zs.map (Value.int .i64)) ∧ Below gg w2 wr) (fun _ i _ _ _ => 4 - (intOf i).toNat)
          case atStart => exact ⟨0, 1, 0, by omega, rfl, rfl, Lib.hid (by simp), Lib.hid rfl, by omega, by omega, by omega, by omega, hg2, own2, bel2'⟩
          case round =>
            obtain ⟨r, y, d', hr, rfl, rfl, hy, hd, y1, y16, d0', dy, hg, hown, bel⟩ := hrel
            have bel' : Below w2.heap.size w2 wr := by rw [HGG.out]; exact bel
            have HBE := Lib.hid bel'
            obtain ⟨p0, p1, p2, p3⟩ := cells4 (blockOver HBE.out HA.out)
            obtain ⟨q0, q1, q2, q3⟩ := cells4 (blockOver HBE.out HB.out)
            obtain ⟨g0, g1, g2, g3⟩ := cells4 hg
            have f3 : wr.frozen? ⟨gg, 3, none⟩ = false := Joins.unfrozen_of_block hg 3
            have HG := Lib.hid hg
            have OWN := Lib.hid hown
            clear hg hown bel' hg2 own2 bel2'
            by_cases hlt : r < 4
            · have KH1 := Lib.hid (KB1.out r wr hlt)
              have KH2 := Lib.hid (KB2.out r wr hlt)
              have OY := Lib.hid (orTo_yes l.d m.d r)
              have ON := Lib.hid (orTo_no l.d m.d r)
              obtain ⟨y8, hy2⟩ := pow_small hlt hy.out
              have HY2 := Lib.hid hy2
              have rr4 : (r : Int) < 4 := by omega
              clear hy2
              generalize bitB l.d r = x at *
              generalize bitB m.d r = z at *
              by_cases hxy : (x || z) = true
              · have E := Lib.hid (OY.out hxy)
                clear OY ON
                have : (x = true) ∨ (x = false ∧ z = true) := by cases x <;> simp_all
                clear hxy
                rcases this with rfl | ⟨rfl, rfl⟩
                all_goals
                  go_wp2_with fail
                  refine KH1.out.mono ?_
                  rintro e w' ⟨rfl, rfl⟩
                  go_wp2_with fail
                  refine KH2.out.mono ?_
                  rintro e w' ⟨rfl, rfl⟩
                  go_wp2
                  exact ⟨⟨r + 1, y * 2, d' + y, by omega, by go_num, rfl, Lib.hid (by rw [← HY2.out]; omega), Lib.hid (by rw [E.out, ← hd.out, ← hy.out]), by omega, by omega, by omega, by omega, Joins.block_setCell HG.out _, OWN.out.kept (Lib.grownBy_setCell wr gg 3 _) HNE.out, bel.setCell (by simp) _⟩, by simp [intOf]; omega⟩
              · have hx : x = false := by cases x <;> simp_all
                have hzz : z = false := by cases z <;> simp_all
                subst hx; subst hzz
                have E := Lib.hid (ON.out rfl)
                clear OY ON hxy
                go_wp2_with fail
                refine KH1.out.mono ?_
                rintro e w' ⟨rfl, rfl⟩
                go_wp2_with fail
                refine KH2.out.mono ?_
                rintro e w' ⟨rfl, rfl⟩
                go_wp2
                exact ⟨⟨r + 1, y * 2, d', by omega, by go_num, rfl, Lib.hid (by rw [← HY2.out]; omega), Lib.hid (by rw [E.out, ← hd.out]), by omega, by omega, by omega, by omega, HG.out, OWN.out, bel⟩, by simp [intOf]; omega⟩
            · obtain rfl : r = 4 := by omega
              have e : joinV l m = ⟨U, zs, P, d'⟩ := by unfold joinV; rw [HU.out, HZS.out, HP.out, ← OREND.out, ← hd.out]
              have HE := Lib.hid e
              have okj := OKJ.out
              rw [e] at okj
              have OKE := Lib.hid okj
              have hZ := blockOver HBE.out HZ.out
              obtain ⟨e0, e1, e2, e3⟩ := cells4 hZ
              have r0 := Joins.unfrozen_of_block hZ 0
              have r1 := Joins.unfrozen_of_block hZ 1
              have r2 := Joins.unfrozen_of_block hZ 2
              have r3 := Joins.unfrozen_of_block hZ 3
              clear e okj hZ
              have HF := Lib.hid (bel2 bw HBE.out)
              go_wp2
              refine bodyPost_ret (v := .agg #[.int .i64 U, .slice a' zs.length c', .int .i64 P, .int .i64 d']) (by simp [results, Try.results23, go_sem, e0, e1, e2, e3]) rfl ?_
              have own3 := ownsRow_setCell_below (ownsRow_setCell_below (ownsRow_setCell_below (ownsRow_setCell_below OWN.out (a := ⟨w.heap.size + 1 + 1, 0, none⟩) (by simp; omega) (.int .i64 U)) (a := ⟨w.heap.size + 1 + 1, 1, none⟩) (by simp; omega) (.slice a' zs.length c')) (a := ⟨w.heap.size + 1 + 1, 2, none⟩) (by simp; omega) (.int .i64 P)) (a := ⟨w.heap.size + 1 + 1, 3, none⟩) (by simp; omega) (.int .i64 d')
              rw [HE.out]
              exact ⟨a', _, c', rfl, labAt_of_own (l := ⟨U, zs, P, d'⟩) OKE.out own3, own_mono own3 (by omega), (((HF.out.setCell (by simp; omega) _).setCell (by simp; omega) _).setCell (by simp; omega) _).setCell (by simp; omega) _⟩
set_option maxRecDepth 100000 in
set_option maxHeartbeats 8000000 in
theorem refJoin_no (l m : Lab) (a : Option Addr) (n c : Nat) (a2 : Option Addr) (n2 c2 : Nat) (w : World) (h : LabAt w a n c l) (h2 : LabAt w a2 n2 c2 m) (hno : (validB l && validB m) = false) :
    Calls Try.prog 23 #[.agg #[.int .i64 l.u, .slice a n c, .int .i64 l.ap, .int .i64 l.d], .agg #[.int .i64 m.u, .slice a2 n2 c2, .int .i64 m.ap, .int .i64 m.d]] w (LabGot zeroL w) := by
  obtain ⟨hb0, hb1, hb2, bw⟩ := three_allocs w (.cells #[.int .i64 l.u, .slice a n c, .int .i64 l.ap, .int .i64 l.d] 26) (.cells #[.int .i64 m.u, .slice a2 n2 c2, .int .i64 m.ap, .int .i64 m.d] 26) (.cells #[.int .i64 0, .slice none 0 0, .int .i64 0, .int .i64 0] 26)
  have HA := Lib.hid hb0
  have HB := Lib.hid hb1
  have HZ := Lib.hid hb2
  have LA := Lib.hid (h.over bw)
  have LB := Lib.hid (h2.over bw)
  have K1 := Lib.hid (fun W hh => refValid_any l a n c W hh)
  have K2 := Lib.hid (fun W hh => refValid_any m a2 n2 c2 W hh)
  clear hb0 hb1 hb2 h h2
  generalize validB l = x at *
  generalize validB m = y at *
  have : (x = false) ∨ (x = true ∧ y = false) := by cases x <;> simp_all
  clear hno
  rcases this with rfl | ⟨rfl, rfl⟩
  all_goals
    go_enter Try.func23, Try.ntmps23
    obtain ⟨haq0, haq1, haq2, haq3⟩ := cells4 HA.out
    obtain ⟨hbq0, hbq1, hbq2, hbq3⟩ := cells4 HB.out
    obtain ⟨hzq0, hzq1, hzq2, hzq3⟩ := cells4 HZ.out
    go_wp2_with fail
    refine (K1.out _ LA.out).mono ?_
    rintro e w1 ⟨rfl, bq⟩
    replace HA := Lib.hid (blockOver bq HA.out)
    replace HB := Lib.hid (blockOver bq HB.out)
    replace HZ := Lib.hid (blockOver bq HZ.out)
    replace LA := Lib.hid (LabAt.over bq LA.out)
    replace LB := Lib.hid (LabAt.over bq LB.out)
    replace bw := bel2 bw bq
    clear bq haq0 haq1 haq2 haq3 hbq0 hbq1 hbq2 hbq3 hzq0 hzq1 hzq2 hzq3
    obtain ⟨haq0, haq1, haq2, haq3⟩ := cells4 HA.out
    obtain ⟨hbq0, hbq1, hbq2, hbq3⟩ := cells4 HB.out
    obtain ⟨hzq0, hzq1, hzq2, hzq3⟩ := cells4 HZ.out
    go_wp2_with fail
    refine (K2.out _ LB.out).mono ?_
    rintro e w2 ⟨rfl, bq⟩
    replace HA := Lib.hid (blockOver bq HA.out)
    replace HB := Lib.hid (blockOver bq HB.out)
    replace HZ := Lib.hid (blockOver bq HZ.out)
    replace LA := Lib.hid (LabAt.over bq LA.out)
    replace LB := Lib.hid (LabAt.over bq LB.out)
    replace bw := bel2 bw bq
    clear bq haq0 haq1 haq2 haq3 hbq0 hbq1 hbq2 hbq3 hzq0 hzq1 hzq2 hzq3
    have hZ := HZ.out
    obtain ⟨e0, e1, e2, e3⟩ := cells4 hZ
    have r0 := Joins.unfrozen_of_block hZ 0
    have r1 := Joins.unfrozen_of_block hZ 1
    have r2 := Joins.unfrozen_of_block hZ 2
    have r3 := Joins.unfrozen_of_block hZ 3
    clear hZ
    go_wp2
    refine bodyPost_ret (v := .agg #[.int .i64 0, .slice none 0 0, .int .i64 0, .int .i64 0]) (by simp [results, Try.results23, go_sem, e0, e1, e2, e3]) rfl ?_
    exact ⟨none, 0, 0, rfl, zero_at _, World.ownsRow_nil _ _ _ _, (((bw.setCell (by simp; omega) _).setCell (by simp; omega) _).setCell (by simp; omega) _).setCell (by simp; omega) _⟩
theorem refJoin_at (l m : Lab) (a : Option Addr) (n c : Nat) (a2 : Option Addr) (n2 c2 : Nat) (w : World) (h : LabAt w a n c l) (h2 : LabAt w a2 n2 c2 m) :
    Calls Try.prog 23 #[.agg #[.int .i64 l.u, .slice a n c, .int .i64 l.ap, .int .i64 l.d], .agg #[.int .i64 m.u, .slice a2 n2 c2, .int .i64 m.ap, .int .i64 m.d]] w (LabGot (joinL l m) w) := by
  by_cases hv : (validB l && validB m) = true
  · have hv' := hv
    rw [Bool.and_eq_true] at hv'
    have o1 := (validB_iff l).1 hv'.1
    have o2 := (validB_iff m).1 hv'.2
    rw [joinL_of o1 o2]
    exact refJoin_yes l m a n c a2 n2 c2 w h h2 o1 o2
  · have e : joinL l m = zeroL := by rw [joinL, if_neg hv]
    rw [e]
    exact refJoin_no l m a n c a2 n2 c2 w h h2 (by simpa using hv)
end Go.Proofs.Ythpginepnleokaa
