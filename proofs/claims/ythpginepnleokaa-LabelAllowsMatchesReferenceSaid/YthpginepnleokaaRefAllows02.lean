import Derived.Test.YthpginepnleokaaRef02
import Derived.RegionTactic
namespace Go.Proofs.Ythpginepnleokaa
open Go.RowKit
set_option linter.unusedSimpArgs false
set_option linter.unusedVariables false
set_option linter.unnecessarySimpa false
theorem allB_parts (l : Lab) (cls now : Int) (out : List Int) (k : Int) : allB l cls now out k = (validB l && (decide (0 ≤ cls ∧ cls ≤ 3) && (!bitB l.d cls.toNat && (decide (l.u ≤ now) && (decide (l.ap ≤ k) && insB l.af out))))) := rfl
set_option maxRecDepth 100000 in
set_option maxHeartbeats 8000000 in
theorem refAllows_any (l : Lab) (cls now k : Int) (out : List Int) (a : Option Addr) (n c : Nat) (a2 : Option Addr) (n2 c2 : Nat) (w : World) (h : LabAt w a n c l) (h2 : IsInts .i64 w a2 n2 c2 out) :
    Calls Try.prog 25 #[.agg #[.int .i64 l.u, .slice a n c, .int .i64 l.ap, .int .i64 l.d], .int .i64 cls, .int .i64 now, .slice a2 n2 c2, .int .i64 k] w fun e w' => e = .returned (.bool (allB l cls now out k)) ∧ Below w.heap.size w w' := by
  have bw := below_alloc w (.cells #[.int .i64 l.u, .slice a n c, .int .i64 l.ap, .int .i64 l.d] 26)
  have HA := Lib.hid (heap_alloc_new w (.cells #[.int .i64 l.u, .slice a n c, .int .i64 l.ap, .int .i64 l.d] 26))
  have LA := Lib.hid (h.over bw)
  have IU2 := Lib.hid (h2.over bw)
  have HV := Lib.hid (allB_parts l cls now out k)
  have O1 := Lib.hid (fun (e : validB l = true) => (validB_iff l).1 e)
  have K1 := Lib.hid (fun W hh => refValid_any l a n c W hh)
  clear h h2
  cases e1 : validB l
  · rw [e1] at K1 HV
    clear e1 O1
    go_enter Try.func25, Try.ntmps25
    obtain ⟨p0, p1, p2, p3⟩ := cells4 HA.out
    go_wp2_with fail
    refine (K1.out _ LA.out).mono ?_
    rintro e w1 ⟨rfl, bq⟩
    replace bw := bel2 bw bq
    clear bq p0 p1 p2 p3
    go_wp2
    go_ret
    exact ⟨ret_bool (by rw [HV.out]; rfl), bw⟩
  have o1 := O1.out e1
  obtain ⟨-, -, -, -, d10, d11⟩ := o1
  rw [e1] at K1 HV
  clear e1 O1
  by_cases h0 : 0 ≤ cls
  · by_cases h3 : cls ≤ 3
    · by_cases h1 : l.u ≤ now
      · by_cases h2 : l.ap ≤ k
        · obtain ⟨cn, rfl⟩ : ∃ cn : Nat, cls = (cn : Int) := ⟨cls.toNat, by omega⟩
          have hcn : cn < 4 := by omega
          have KB := Lib.hid (fun W => bit_any l.d cn W ⟨d10, d11⟩ hcn)
          go_enter Try.func25, Try.ntmps25
          obtain ⟨p0, p1, p2, p3⟩ := cells4 HA.out
          go_wp2_with fail
          refine (K1.out _ LA.out).mono ?_
          rintro e w1 ⟨rfl, bq⟩
          replace HA := Lib.hid (blockOver bq HA.out)
          replace LA := Lib.hid (LA.out.over bq)
          replace IU2 := Lib.hid (IU2.out.over bq)
          replace bw := bel2 bw bq
          clear bq p0 p1 p2 p3
          obtain ⟨p0, p1, p2, p3⟩ := cells4 HA.out
          go_wp2_with fail
          have hcm := LA.out.1.2.2.1
          have hnc := LA.out.1.2.1
          unfold maxLen at hcm
          have HLN := Lib.hid LA.out.1.1
          go_loop [12, 13] (fun i _ => ∃ r : Nat, r ≤ n ∧ i = .int .i64 r ∧ Hid (∀ j, j < r → hasB out (l.af.getD j 0) = true)) (fun i _ => n - (intOf i).toNat)
          case atStart => exact ⟨0, Nat.zero_le _, rfl, Lib.hid (fun j hj => by omega)⟩
          case round =>
            obtain ⟨r, hr, rfl, hall⟩ := hrel
            by_cases hlt : r < n
            · obtain ⟨b, off, rfl, cz⟩ := LA.out.1.2.2.2.2.resolve_left (by omega)
              have hcell := cz r hlt
              have HX := Lib.hid (fun h => all_no (zs := l.af) (out := out) (i := r) (by rw [HLN.out]; exact hlt) h)
              have HS : Hid (hasB out (l.af.getD r 0) = true → ∀ j, j < r + 1 → hasB out (l.af.getD j 0) = true) := Lib.hid (fun hz j hj => by
                by_cases e : j = r
                · rw [e]; exact hz
                · exact hall.out j (by omega))
              clear cz
              generalize l.af.getD r 0 = z at *
              have hltn : (r : Int) < n := by omega
              have KH := Lib.hid (has_any a2 n2 c2 out z w1 IU2.out)
              cases e : hasB out z
              · rw [e] at KH
                have FE := Lib.hid e
                clear e
                go_wp2_with fail
                refine KH.out.mono ?_
                rintro e w' ⟨rfl, rfl⟩
                go_wp2
                go_ret
                exact ⟨ret_bool (by rw [HV.out, HX.out FE.out]; simp), bw⟩
              · rw [e] at KH
                have FE := Lib.hid e
                clear e
                go_wp2_with fail
                refine KH.out.mono ?_
                rintro e w' ⟨rfl, rfl⟩
                go_wp2
                exact ⟨⟨r + 1, by omega, by go_num, Lib.hid (HS.out FE.out)⟩, by simp [intOf]; omega⟩
            · obtain rfl : r = n := by omega
              have HI := Lib.hid (all_yes (zs := l.af) (out := out) (fun i hi => hall.out i (by rw [← HLN.out]; exact hi)))
              go_wp2_with fail
              refine (KB.out _).mono ?_
              rintro e w' ⟨rfl, rfl⟩
              go_wp2
              go_ret
              exact ⟨ret_bool (by rw [HV.out, HI.out]; simp [h1, h2, h3, Int.toNat_natCast]), bw⟩
        all_goals
          go_enter Try.func25, Try.ntmps25
          obtain ⟨p0, p1, p2, p3⟩ := cells4 HA.out
          go_wp2_with fail
          refine (K1.out _ LA.out).mono ?_
          rintro e w1 ⟨rfl, bq⟩
          replace HA := Lib.hid (blockOver bq HA.out)
          replace bw := bel2 bw bq
          clear bq p0 p1 p2 p3
          obtain ⟨p0, p1, p2, p3⟩ := cells4 HA.out
          go_wp2
          go_ret
          exact ⟨ret_bool (by rw [HV.out]; simp; omega), bw⟩
      all_goals
        go_enter Try.func25, Try.ntmps25
        obtain ⟨p0, p1, p2, p3⟩ := cells4 HA.out
        go_wp2_with fail
        refine (K1.out _ LA.out).mono ?_
        rintro e w1 ⟨rfl, bq⟩
        replace HA := Lib.hid (blockOver bq HA.out)
        replace bw := bel2 bw bq
        clear bq p0 p1 p2 p3
        obtain ⟨p0, p1, p2, p3⟩ := cells4 HA.out
        go_wp2
        go_ret
        exact ⟨ret_bool (by rw [HV.out]; simp; omega), bw⟩
    all_goals
      go_enter Try.func25, Try.ntmps25
      obtain ⟨p0, p1, p2, p3⟩ := cells4 HA.out
      go_wp2_with fail
      refine (K1.out _ LA.out).mono ?_
      rintro e w1 ⟨rfl, bq⟩
      replace bw := bel2 bw bq
      clear bq p0 p1 p2 p3
      go_wp2
      go_ret
      exact ⟨ret_bool (by rw [HV.out]; simp; omega), bw⟩
  all_goals
    go_enter Try.func25, Try.ntmps25
    obtain ⟨p0, p1, p2, p3⟩ := cells4 HA.out
    go_wp2_with fail
    refine (K1.out _ LA.out).mono ?_
    rintro e w1 ⟨rfl, bq⟩
    replace bw := bel2 bw bq
    clear bq p0 p1 p2 p3
    go_wp2
    go_ret
    exact ⟨ret_bool (by rw [HV.out]; simp; omega), bw⟩
end Go.Proofs.Ythpginepnleokaa
