/- The law's helpers: pick, uses. The law's helper uses. The law's helper spoiled. The law's helper spoiled, the topics. FactFields: the walk of the statement's text. -/
import Derived.Test.YtlhcckjfgpcohaaGreatDoorU5
import Derived.Test.YtlhcckjfgpcohaaGreatDoorU3
import Derived.Deep.RegionHeld3
namespace Go.Proofs.YtlhcckjfgpcohaaGreatDoor
open Go.RowKit Go.MapKept
set_option maxRecDepth 100000
set_option linter.unusedSimpArgs false
set_option linter.unusedVariables false
set_option maxHeartbeats 1000000 in
theorem pick5 (k : Int) (n : Nat) (hk : Bd k) (hn : 0 < n) (hm : n ≤ 100000000) :
    ∃ r : Nat, r < n ∧ ∀ w, Calls Tryz.prog 16 #[.int .i64 k, .int .i64 n] w fun x w' => x = .returned (.int .i64 r) ∧ w = w' := by
  obtain ⟨h1, h2⟩ := hk
  have hn0 : (n : Int) ≠ 0 := by omega
  by_cases hneg : k < 0
  · have f1 := Int.tmod_lt_of_pos (-(k + 1)) (b := (n : Int)) (by omega)
    have f2 := Int.tmod_nonneg (n : Int) (a := -(k + 1)) (by omega)
    rw [Int.neg_tmod] at f1 f2
    refine ⟨(-(k + 1).tmod n).toNat, by omega, fun w => ?_⟩
    go_enter Tryz.func16, Tryz.ntmps16
    go_wp2
    go_ret
    exact ⟨by
      show Ending.returned (.int .i64 (-(k + 1).tmod n)) = _
      rw [Int.toNat_of_nonneg f2], rfl⟩
  · have f1 := Int.emod_lt_of_pos k (b := (n : Int)) (by omega)
    have f2 := Int.emod_nonneg k (b := (n : Int)) hn0
    obtain ⟨r, hr⟩ : ∃ r : Nat, k % (n : Int) = (r : Int) := ⟨(k % n).toNat, (Int.toNat_of_nonneg f2).symm⟩
    have HR := Lib.hid hr
    refine ⟨r, by omega, fun w => ?_⟩
    clear hr f1 f2
    go_enter Tryz.func16, Tryz.ntmps16
    go_wp2
    go_ret
    exact ⟨by
      show Ending.returned (.int .i64 (k % (n : Int))) = _
      rw [HR.out], rfl⟩
end Go.Proofs.YtlhcckjfgpcohaaGreatDoor
namespace Go.Proofs.YtlhcckjfgpcohaaGreatDoor
open Go.RowKit Go.MapKept
set_option maxRecDepth 100000
set_option linter.unusedSimpArgs false
set_option linter.unusedVariables false
theorem row9 (w : World) (b0 b1 b2 b3 b4 b5 b6 b7 b8 : Bool) (q : Nat) (hq : q < 9) : ∃ b, (w.alloc (.cells #[.bool b0, .bool b1, .bool b2, .bool b3, .bool b4, .bool b5, .bool b6, .bool b7, .bool b8] 4)).cell? ⟨w.heap.size, q, none⟩ = some (.bool b) ∧ [b0, b1, b2, b3, b4, b5, b6, b7, b8][q]? = some b := by
  have h := heap_alloc_new w (.cells #[.bool b0, .bool b1, .bool b2, .bool b3, .bool b4, .bool b5, .bool b6, .bool b7, .bool b8] 4)
  have hq' : q < ([b0, b1, b2, b3, b4, b5, b6, b7, b8] : List Bool).length := hq
  refine ⟨[b0, b1, b2, b3, b4, b5, b6, b7, b8][q], ?_, List.getElem?_eq_getElem hq'⟩
  rw [Joins.cell_of_block h]
  rcases q with _ | _ | _ | _ | _ | _ | _ | _ | _ | q
  all_goals first | rfl | omega
set_option maxHeartbeats 2000000 in
theorem uses_1 (c : Int) (q : Nat) (hq : q < 9) (KP : Hid (∀ w, Calls Tryz.prog 16 #[.int .i64 c, .int .i64 9] w fun x w' => x = .returned (.int .i64 q) ∧ w = w')) (w : World) :
    Calls Tryz.prog 17 #[.int .i64 1, .int .i64 c] w fun r w' => r = .returned (.bool (usesB 1 q)) ∧ Below w.heap.size w w' := by
  obtain ⟨b, hb, hl⟩ := row9 w false false false false true true true true false q hq
  have HL : Hid (usesB 1 q = b) := Lib.hid (by
    rcases q with _ | _ | _ | _ | _ | _ | _ | _ | _ | q
    all_goals first | omega | (cases hl; rfl))
  have HB := Lib.hid (below_alloc w (.cells #[.bool false, .bool false, .bool false, .bool false, .bool true, .bool true, .bool true, .bool true, .bool false] 4))
  have hqi : (q : Int) < 9 := by omega
  clear hl
  rw [HL.out]
  go_enter Tryz.func17, Tryz.ntmps17
  go_wp2_with fail
  refine (KP.out _).mono ?_
  rintro x w1 ⟨rfl, rfl⟩
  go_wp2
  go_ret
  exact ⟨rfl, HB.out⟩
set_option maxHeartbeats 2000000 in
theorem uses_2 (c : Int) (q : Nat) (hq : q < 9) (KP : Hid (∀ w, Calls Tryz.prog 16 #[.int .i64 c, .int .i64 9] w fun x w' => x = .returned (.int .i64 q) ∧ w = w')) (w : World) :
    Calls Tryz.prog 17 #[.int .i64 2, .int .i64 c] w fun r w' => r = .returned (.bool (usesB 2 q)) ∧ Below w.heap.size w w' := by
  obtain ⟨b, hb, hl⟩ := row9 w true false false false false false false false false q hq
  have HL : Hid (usesB 2 q = b) := Lib.hid (by
    rcases q with _ | _ | _ | _ | _ | _ | _ | _ | _ | q
    all_goals first | omega | (cases hl; rfl))
  have HB := Lib.hid (below_alloc w (.cells #[.bool true, .bool false, .bool false, .bool false, .bool false, .bool false, .bool false, .bool false, .bool false] 4))
  have hqi : (q : Int) < 9 := by omega
  clear hl
  rw [HL.out]
  go_enter Tryz.func17, Tryz.ntmps17
  go_wp2_with fail
  refine (KP.out _).mono ?_
  rintro x w1 ⟨rfl, rfl⟩
  go_wp2
  go_ret
  exact ⟨rfl, HB.out⟩
set_option maxHeartbeats 2000000 in
theorem uses_3 (c : Int) (q : Nat) (hq : q < 9) (KP : Hid (∀ w, Calls Tryz.prog 16 #[.int .i64 c, .int .i64 9] w fun x w' => x = .returned (.int .i64 q) ∧ w = w')) (w : World) :
    Calls Tryz.prog 17 #[.int .i64 3, .int .i64 c] w fun r w' => r = .returned (.bool (usesB 3 q)) ∧ Below w.heap.size w w' := by
  obtain ⟨b, hb, hl⟩ := row9 w false false false false false false true false false q hq
  have HL : Hid (usesB 3 q = b) := Lib.hid (by
    rcases q with _ | _ | _ | _ | _ | _ | _ | _ | _ | q
    all_goals first | omega | (cases hl; rfl))
  have HB := Lib.hid (below_alloc w (.cells #[.bool false, .bool false, .bool false, .bool false, .bool false, .bool false, .bool true, .bool false, .bool false] 4))
  have hqi : (q : Int) < 9 := by omega
  clear hl
  rw [HL.out]
  go_enter Tryz.func17, Tryz.ntmps17
  go_wp2_with fail
  refine (KP.out _).mono ?_
  rintro x w1 ⟨rfl, rfl⟩
  go_wp2
  go_ret
  exact ⟨rfl, HB.out⟩
set_option maxHeartbeats 2000000 in
theorem uses_4 (c : Int) (q : Nat) (hq : q < 9) (KP : Hid (∀ w, Calls Tryz.prog 16 #[.int .i64 c, .int .i64 9] w fun x w' => x = .returned (.int .i64 q) ∧ w = w')) (w : World) :
    Calls Tryz.prog 17 #[.int .i64 4, .int .i64 c] w fun r w' => r = .returned (.bool (usesB 4 q)) ∧ Below w.heap.size w w' := by
  obtain ⟨b, hb, hl⟩ := row9 w false false false false true false false false true q hq
  have HL : Hid (usesB 4 q = b) := Lib.hid (by
    rcases q with _ | _ | _ | _ | _ | _ | _ | _ | _ | q
    all_goals first | omega | (cases hl; rfl))
  have HB := Lib.hid (below_alloc w (.cells #[.bool false, .bool false, .bool false, .bool false, .bool true, .bool false, .bool false, .bool false, .bool true] 4))
  have hqi : (q : Int) < 9 := by omega
  clear hl
  rw [HL.out]
  go_enter Tryz.func17, Tryz.ntmps17
  go_wp2_with fail
  refine (KP.out _).mono ?_
  rintro x w1 ⟨rfl, rfl⟩
  go_wp2
  go_ret
  exact ⟨rfl, HB.out⟩
set_option maxHeartbeats 2000000 in
theorem uses_5 (c : Int) (q : Nat) (hq : q < 9) (KP : Hid (∀ w, Calls Tryz.prog 16 #[.int .i64 c, .int .i64 9] w fun x w' => x = .returned (.int .i64 q) ∧ w = w')) (w : World) :
    Calls Tryz.prog 17 #[.int .i64 5, .int .i64 c] w fun r w' => r = .returned (.bool (usesB 5 q)) ∧ Below w.heap.size w w' := by
  obtain ⟨b, hb, hl⟩ := row9 w false false false false false false false false false q hq
  have HL : Hid (usesB 5 q = b) := Lib.hid (by
    rcases q with _ | _ | _ | _ | _ | _ | _ | _ | _ | q
    all_goals first | omega | (cases hl; rfl))
  have HB := Lib.hid (below_alloc w (.cells #[.bool false, .bool false, .bool false, .bool false, .bool false, .bool false, .bool false, .bool false, .bool false] 4))
  have hqi : (q : Int) < 9 := by omega
  clear hl
  rw [HL.out]
  go_enter Tryz.func17, Tryz.ntmps17
  go_wp2_with fail
  refine (KP.out _).mono ?_
  rintro x w1 ⟨rfl, rfl⟩
  go_wp2
  go_ret
  exact ⟨rfl, HB.out⟩
set_option maxHeartbeats 2000000 in
theorem uses_6 (c : Int) (q : Nat) (hq : q < 9) (KP : Hid (∀ w, Calls Tryz.prog 16 #[.int .i64 c, .int .i64 9] w fun x w' => x = .returned (.int .i64 q) ∧ w = w')) (w : World) :
    Calls Tryz.prog 17 #[.int .i64 6, .int .i64 c] w fun r w' => r = .returned (.bool (usesB 6 q)) ∧ Below w.heap.size w w' := by
  obtain ⟨b, hb, hl⟩ := row9 w false false false false false false false false false q hq
  have HL : Hid (usesB 6 q = b) := Lib.hid (by
    rcases q with _ | _ | _ | _ | _ | _ | _ | _ | _ | q
    all_goals first | omega | (cases hl; rfl))
  have HB := Lib.hid (below_alloc w (.cells #[.bool false, .bool false, .bool false, .bool false, .bool false, .bool false, .bool false, .bool false, .bool false] 4))
  have hqi : (q : Int) < 9 := by omega
  clear hl
  rw [HL.out]
  go_enter Tryz.func17, Tryz.ntmps17
  go_wp2_with fail
  refine (KP.out _).mono ?_
  rintro x w1 ⟨rfl, rfl⟩
  go_wp2
  go_ret
  exact ⟨rfl, HB.out⟩
set_option maxHeartbeats 2000000 in
theorem uses_7 (c : Int) (q : Nat) (hq : q < 9) (KP : Hid (∀ w, Calls Tryz.prog 16 #[.int .i64 c, .int .i64 9] w fun x w' => x = .returned (.int .i64 q) ∧ w = w')) (w : World) :
    Calls Tryz.prog 17 #[.int .i64 7, .int .i64 c] w fun r w' => r = .returned (.bool (usesB 7 q)) ∧ Below w.heap.size w w' := by
  obtain ⟨b, hb, hl⟩ := row9 w false true false false false false false false false q hq
  have HL : Hid (usesB 7 q = b) := Lib.hid (by
    rcases q with _ | _ | _ | _ | _ | _ | _ | _ | _ | q
    all_goals first | omega | (cases hl; rfl))
  have HB := Lib.hid (below_alloc w (.cells #[.bool false, .bool true, .bool false, .bool false, .bool false, .bool false, .bool false, .bool false, .bool false] 4))
  have hqi : (q : Int) < 9 := by omega
  clear hl
  rw [HL.out]
  go_enter Tryz.func17, Tryz.ntmps17
  go_wp2_with fail
  refine (KP.out _).mono ?_
  rintro x w1 ⟨rfl, rfl⟩
  go_wp2
  go_ret
  exact ⟨rfl, HB.out⟩
set_option maxHeartbeats 2000000 in
theorem uses_8 (c : Int) (q : Nat) (hq : q < 9) (KP : Hid (∀ w, Calls Tryz.prog 16 #[.int .i64 c, .int .i64 9] w fun x w' => x = .returned (.int .i64 q) ∧ w = w')) (w : World) :
    Calls Tryz.prog 17 #[.int .i64 8, .int .i64 c] w fun r w' => r = .returned (.bool (usesB 8 q)) ∧ Below w.heap.size w w' := by
  obtain ⟨b, hb, hl⟩ := row9 w false false true true false false false false false q hq
  have HL : Hid (usesB 8 q = b) := Lib.hid (by
    rcases q with _ | _ | _ | _ | _ | _ | _ | _ | _ | q
    all_goals first | omega | (cases hl; rfl))
  have HB := Lib.hid (below_alloc w (.cells #[.bool false, .bool false, .bool true, .bool true, .bool false, .bool false, .bool false, .bool false, .bool false] 4))
  have hqi : (q : Int) < 9 := by omega
  clear hl
  rw [HL.out]
  go_enter Tryz.func17, Tryz.ntmps17
  go_wp2_with fail
  refine (KP.out _).mono ?_
  rintro x w1 ⟨rfl, rfl⟩
  go_wp2
  go_ret
  exact ⟨rfl, HB.out⟩
set_option maxHeartbeats 2000000 in
theorem uses_9 (c : Int) (q : Nat) (hq : q < 9) (KP : Hid (∀ w, Calls Tryz.prog 16 #[.int .i64 c, .int .i64 9] w fun x w' => x = .returned (.int .i64 q) ∧ w = w')) (w : World) :
    Calls Tryz.prog 17 #[.int .i64 9, .int .i64 c] w fun r w' => r = .returned (.bool (usesB 9 q)) ∧ Below w.heap.size w w' := by
  obtain ⟨b, hb, hl⟩ := row9 w false false true false false false false false false q hq
  have HL : Hid (usesB 9 q = b) := Lib.hid (by
    rcases q with _ | _ | _ | _ | _ | _ | _ | _ | _ | q
    all_goals first | omega | (cases hl; rfl))
  have HB := Lib.hid (below_alloc w (.cells #[.bool false, .bool false, .bool true, .bool false, .bool false, .bool false, .bool false, .bool false, .bool false] 4))
  have hqi : (q : Int) < 9 := by omega
  clear hl
  rw [HL.out]
  go_enter Tryz.func17, Tryz.ntmps17
  go_wp2_with fail
  refine (KP.out _).mono ?_
  rintro x w1 ⟨rfl, rfl⟩
  go_wp2
  go_ret
  exact ⟨rfl, HB.out⟩
set_option maxHeartbeats 2000000 in
theorem uses_10 (c : Int) (q : Nat) (hq : q < 9) (KP : Hid (∀ w, Calls Tryz.prog 16 #[.int .i64 c, .int .i64 9] w fun x w' => x = .returned (.int .i64 q) ∧ w = w')) (w : World) :
    Calls Tryz.prog 17 #[.int .i64 10, .int .i64 c] w fun r w' => r = .returned (.bool (usesB 10 q)) ∧ Below w.heap.size w w' := by
  obtain ⟨b, hb, hl⟩ := row9 w false false false false false false false false false q hq
  have HL : Hid (usesB 10 q = b) := Lib.hid (by
    rcases q with _ | _ | _ | _ | _ | _ | _ | _ | _ | q
    all_goals first | omega | (cases hl; rfl))
  have HB := Lib.hid (below_alloc w (.cells #[.bool false, .bool false, .bool false, .bool false, .bool false, .bool false, .bool false, .bool false, .bool false] 4))
  have hqi : (q : Int) < 9 := by omega
  clear hl
  rw [HL.out]
  go_enter Tryz.func17, Tryz.ntmps17
  go_wp2_with fail
  refine (KP.out _).mono ?_
  rintro x w1 ⟨rfl, rfl⟩
  go_wp2
  go_ret
  exact ⟨rfl, HB.out⟩
theorem uses5 (k c : Int) (q : Nat) (hk : 1 ≤ k ∧ k ≤ 10) (hq : q < 9) (KP : Hid (∀ w, Calls Tryz.prog 16 #[.int .i64 c, .int .i64 9] w fun x w' => x = .returned (.int .i64 q) ∧ w = w')) (w : World) :
    Calls Tryz.prog 17 #[.int .i64 k, .int .i64 c] w fun r w' => r = .returned (.bool (usesB k q)) ∧ Below w.heap.size w w' := by
  have : k = 1 ∨ k = 2 ∨ k = 3 ∨ k = 4 ∨ k = 5 ∨ k = 6 ∨ k = 7 ∨ k = 8 ∨ k = 9 ∨ k = 10 := by omega
  rcases this with rfl | rfl | rfl | rfl | rfl | rfl | rfl | rfl | rfl | rfl
  · exact uses_1 c q hq KP w
  · exact uses_2 c q hq KP w
  · exact uses_3 c q hq KP w
  · exact uses_4 c q hq KP w
  · exact uses_5 c q hq KP w
  · exact uses_6 c q hq KP w
  · exact uses_7 c q hq KP w
  · exact uses_8 c q hq KP w
  · exact uses_9 c q hq KP w
  · exact uses_10 c q hq KP w
end Go.Proofs.YtlhcckjfgpcohaaGreatDoor
namespace Go.Proofs.YtlhcckjfgpcohaaGreatDoor
open Go.RowKit Go.MapKept
set_option maxRecDepth 100000
set_option linter.unusedSimpArgs false
set_option linter.unusedVariables false
/-- What spoiled gives. -/
def SpOut (i : Int) (e : FE) (w : World) (r : Ending) (w' : World) : Prop := ∃ d : FE, r = .returned (.agg #[.int .i64 d.f.n, .int .i64 d.f.tm, .int .i64 d.f.kd, .int .i64 d.f.st, .string ⟨d.f.lg.toArray⟩, .int .i64 d.f.rv, .int .i64 d.f.bs, .string ⟨d.f.ti.toArray⟩, .string ⟨d.f.au.toArray⟩, .slice d.ta d.tn d.tc, .slice d.ba d.bn d.bc, .int .i64 d.f.lb.u, .slice d.la d.ln d.lc, .int .i64 d.f.lb.ap, .int .i64 d.f.lb.d, .int .i64 d.f.ed, .int .i64 d.f.bk, .int .i64 d.f.se, .string ⟨d.f.tx.toArray⟩, .string ⟨d.f.nm.toArray⟩, .int .i64 d.f.pt, .int .i64 d.f.cl, .int .i64 d.f.un]) ∧ d.f = spoilF i e.f ∧ FeOk w' d ∧ Below w.heap.size w w'
set_option maxHeartbeats 8000000 in
theorem spoil_0 (e : FE) (c : Int) (KP : Hid (∀ w, Calls Tryz.prog 16 #[.int .i64 c, .int .i64 9] w fun x w' => x = .returned (.int .i64 0) ∧ w = w')) (w : World) (h : FeOk w e) (z1 : e.f.ed ≤ 1000) (z2 : -1000 ≤ e.f.ed) :
    Calls Tryz.prog 18 #[.agg #[.int .i64 e.f.n, .int .i64 e.f.tm, .int .i64 e.f.kd, .int .i64 e.f.st, .string ⟨e.f.lg.toArray⟩, .int .i64 e.f.rv, .int .i64 e.f.bs, .string ⟨e.f.ti.toArray⟩, .string ⟨e.f.au.toArray⟩, .slice e.ta e.tn e.tc, .slice e.ba e.bn e.bc, .int .i64 e.f.lb.u, .slice e.la e.ln e.lc, .int .i64 e.f.lb.ap, .int .i64 e.f.lb.d, .int .i64 e.f.ed, .int .i64 e.f.bk, .int .i64 e.f.se, .string ⟨e.f.tx.toArray⟩, .string ⟨e.f.nm.toArray⟩, .int .i64 e.f.pt, .int .i64 e.f.cl, .int .i64 e.f.un], .int .i64 c] w (SpOut 0 e w) := by
  obtain ⟨Bf, hBf⟩ : ∃ Bf, Bf = w.heap.size := ⟨_, rfl⟩
  obtain ⟨V0, hV0⟩ : ∃ V0, V0 = (w.alloc (.cells #[.int .i64 e.f.n, .int .i64 e.f.tm, .int .i64 e.f.kd, .int .i64 e.f.st, .string ⟨e.f.lg.toArray⟩, .int .i64 e.f.rv, .int .i64 e.f.bs, .string ⟨e.f.ti.toArray⟩, .string ⟨e.f.au.toArray⟩, .slice e.ta e.tn e.tc, .slice e.ba e.bn e.bc, .int .i64 e.f.lb.u, .slice e.la e.ln e.lc, .int .i64 e.f.lb.ap, .int .i64 e.f.lb.d, .int .i64 e.f.ed, .int .i64 e.f.bk, .int .i64 e.f.se, .string ⟨e.f.tx.toArray⟩, .string ⟨e.f.nm.toArray⟩, .int .i64 e.f.pt, .int .i64 e.f.cl, .int .i64 e.f.un] 28)).alloc (.cells #[.int .i64 0, .int .i64 0, .int .i64 0, .int .i64 0, .string ⟨#[]⟩, .int .i64 0, .int .i64 0, .string ⟨#[]⟩, .string ⟨#[]⟩, .slice none 0 0, .slice none 0 0, .int .i64 0, .slice none 0 0, .int .i64 0, .int .i64 0, .int .i64 0, .int .i64 0, .int .i64 0, .string ⟨#[]⟩, .string ⟨#[]⟩, .int .i64 0, .int .i64 0, .int .i64 0] 28) := ⟨_, rfl⟩
  have F0 : Hid (FcAt V0 Bf e) := Lib.hid (by rw [hV0, hBf]; exact (new_fact w e).over (below_alloc _ _))
  have R0 : Hid (FcAt V0 (Bf + 1) zE) := Lib.hid (by
    rw [hV0, hBf]
    have := heap_alloc_new (w.alloc (.cells #[.int .i64 e.f.n, .int .i64 e.f.tm, .int .i64 e.f.kd, .int .i64 e.f.st, .string ⟨e.f.lg.toArray⟩, .int .i64 e.f.rv, .int .i64 e.f.bs, .string ⟨e.f.ti.toArray⟩, .string ⟨e.f.au.toArray⟩, .slice e.ta e.tn e.tc, .slice e.ba e.bn e.bc, .int .i64 e.f.lb.u, .slice e.la e.ln e.lc, .int .i64 e.f.lb.ap, .int .i64 e.f.lb.d, .int .i64 e.f.ed, .int .i64 e.f.bk, .int .i64 e.f.se, .string ⟨e.f.tx.toArray⟩, .string ⟨e.f.nm.toArray⟩, .int .i64 e.f.pt, .int .i64 e.f.cl, .int .i64 e.f.un] 28)) (.cells #[.int .i64 0, .int .i64 0, .int .i64 0, .int .i64 0, .string ⟨#[]⟩, .int .i64 0, .int .i64 0, .string ⟨#[]⟩, .string ⟨#[]⟩, .slice none 0 0, .slice none 0 0, .int .i64 0, .slice none 0 0, .int .i64 0, .int .i64 0, .int .i64 0, .int .i64 0, .int .i64 0, .string ⟨#[]⟩, .string ⟨#[]⟩, .int .i64 0, .int .i64 0, .int .i64 0] 28)
    rw [show (w.alloc (.cells #[.int .i64 e.f.n, .int .i64 e.f.tm, .int .i64 e.f.kd, .int .i64 e.f.st, .string ⟨e.f.lg.toArray⟩, .int .i64 e.f.rv, .int .i64 e.f.bs, .string ⟨e.f.ti.toArray⟩, .string ⟨e.f.au.toArray⟩, .slice e.ta e.tn e.tc, .slice e.ba e.bn e.bc, .int .i64 e.f.lb.u, .slice e.la e.ln e.lc, .int .i64 e.f.lb.ap, .int .i64 e.f.lb.d, .int .i64 e.f.ed, .int .i64 e.f.bk, .int .i64 e.f.se, .string ⟨e.f.tx.toArray⟩, .string ⟨e.f.nm.toArray⟩, .int .i64 e.f.pt, .int .i64 e.f.cl, .int .i64 e.f.un] 28)).heap.size = w.heap.size + 1 by simp] at this
    exact this)
  have B0 : Hid (Below Bf w V0) := Lib.hid (by rw [hV0, hBf]; exact bel2 (below_alloc w _) (below_alloc _ _))
  have S0 : Hid (V0.heap.size = Bf + 2) := Lib.hid (by rw [hV0, hBf]; simp)
  have HV0 := Lib.hid hV0
  have hBs : w.heap.size = Bf := hBf.symm
  have HOK := Lib.hid h
  clear hV0 hBf h
  obtain ⟨d, hd⟩ : ∃ d : FE, d = { e with f := { e.f with ed := e.f.ed + 1 } } := ⟨_, rfl⟩
  have G2 : Hid (FcAt (V0.setCell ⟨Bf, 15, none⟩ (.int .i64 (e.f.ed + 1))) Bf d) := Lib.hid (by rw [hd]; exact F0.out.set 15 _ rfl)
  have R2 : Hid ((V0.setCell ⟨Bf, 15, none⟩ (.int .i64 (e.f.ed + 1))).there (Bf + 1) 0 23) := Lib.hid (R0.out.other (by omega)).there
  have HD := Lib.hid hd
  have co : V0.cell? ⟨Bf, 15, none⟩ = some (.int .i64 e.f.ed) := F0.out.cell 15
  have fo := Joins.unfrozen_of_block F0.out 15
  have K2 : Hid (Kp (RG Bf (Bf + 1)) V0 ((V0.setCell ⟨Bf, 15, none⟩ (.int .i64 (e.f.ed + 1))).setCells (Bf + 1) 0 (elF d))) := Lib.hid (Kp.setCells (.inr rfl) _ _ _ ((Kp.refl _ _).setCell (.inl rfl) _ _))
  clear hd R0 F0
  go_enter Tryz.func18, Tryz.ntmps18
  go_wp2_with fail
  rw [← HV0.out]
  refine (KP.out _).mono ?_
  rintro x w1 ⟨rfl, rfl⟩
  go_wp2_with (first | (refine wpList_load28 _ Bf d ?F rfl rfl rfl ?_; (case F => exact G2.out)) | (refine wpList_storeK (Bf + 1) d ?T _ _ rfl rfl rfl rfl ?_; (case T => exact R2.out)))
  have hbz : Below w.heap.size w ((V0.setCell ⟨Bf, 15, none⟩ (.int .i64 (e.f.ed + 1))).setCells (Bf + 1) 0 (elF d)) := by
    rw [hBs]
    exact B0.out.trans (K2.out.below (by have := S0.out; omega) (by rintro q (rfl | rfl) <;> omega))
  have hrr := World.rangeAt_setCells_same (V0.setCell ⟨Bf, 15, none⟩ (.int .i64 (e.f.ed + 1))) (Bf + 1) 0 (elF d) (by simpa [elF] using R2.out)
  refine ⟨rfl, aggF d, results_one (k := 4) (t1 := 28) (by kernel_rfl) (load_fact hrr) (by rfl), d, rfl, by rw [HD.out]; rfl, ?_, hbz⟩
  have ok := HOK.out.over hbz
  revert ok
  generalize (V0.setCell ⟨Bf, 15, none⟩ (.int .i64 (e.f.ed + 1))).setCells (Bf + 1) 0 (elF d) = Wz
  intro ok
  rw [HD.out]
  obtain ⟨o1, o2, o3, ⟨i1, i2, i3, i4, i5, i6, i7, i8, i9, i10, i11, i12⟩, ⟨s1, s2, s3, s4, s5⟩⟩ := ok
  exact ⟨o1, o2, o3, ⟨i1, i2, i3, i4, i5, i6, ⟨by show _ ≤ e.f.ed + 1; omega, by show e.f.ed + 1 ≤ _; omega⟩, i8, i9, i10, i11, i12⟩, ⟨s1, s2, s3, s4, s5⟩⟩
set_option maxHeartbeats 8000000 in
theorem spoil_1 (e : FE) (c : Int) (KP : Hid (∀ w, Calls Tryz.prog 16 #[.int .i64 c, .int .i64 9] w fun x w' => x = .returned (.int .i64 1) ∧ w = w')) (w : World) (h : FeOk w e) (z1 : e.f.nm.length ≤ 1000) :
    Calls Tryz.prog 18 #[.agg #[.int .i64 e.f.n, .int .i64 e.f.tm, .int .i64 e.f.kd, .int .i64 e.f.st, .string ⟨e.f.lg.toArray⟩, .int .i64 e.f.rv, .int .i64 e.f.bs, .string ⟨e.f.ti.toArray⟩, .string ⟨e.f.au.toArray⟩, .slice e.ta e.tn e.tc, .slice e.ba e.bn e.bc, .int .i64 e.f.lb.u, .slice e.la e.ln e.lc, .int .i64 e.f.lb.ap, .int .i64 e.f.lb.d, .int .i64 e.f.ed, .int .i64 e.f.bk, .int .i64 e.f.se, .string ⟨e.f.tx.toArray⟩, .string ⟨e.f.nm.toArray⟩, .int .i64 e.f.pt, .int .i64 e.f.cl, .int .i64 e.f.un], .int .i64 c] w (SpOut 1 e w) := by
  obtain ⟨Bf, hBf⟩ : ∃ Bf, Bf = w.heap.size := ⟨_, rfl⟩
  obtain ⟨V0, hV0⟩ : ∃ V0, V0 = (w.alloc (.cells #[.int .i64 e.f.n, .int .i64 e.f.tm, .int .i64 e.f.kd, .int .i64 e.f.st, .string ⟨e.f.lg.toArray⟩, .int .i64 e.f.rv, .int .i64 e.f.bs, .string ⟨e.f.ti.toArray⟩, .string ⟨e.f.au.toArray⟩, .slice e.ta e.tn e.tc, .slice e.ba e.bn e.bc, .int .i64 e.f.lb.u, .slice e.la e.ln e.lc, .int .i64 e.f.lb.ap, .int .i64 e.f.lb.d, .int .i64 e.f.ed, .int .i64 e.f.bk, .int .i64 e.f.se, .string ⟨e.f.tx.toArray⟩, .string ⟨e.f.nm.toArray⟩, .int .i64 e.f.pt, .int .i64 e.f.cl, .int .i64 e.f.un] 28)).alloc (.cells #[.int .i64 0, .int .i64 0, .int .i64 0, .int .i64 0, .string ⟨#[]⟩, .int .i64 0, .int .i64 0, .string ⟨#[]⟩, .string ⟨#[]⟩, .slice none 0 0, .slice none 0 0, .int .i64 0, .slice none 0 0, .int .i64 0, .int .i64 0, .int .i64 0, .int .i64 0, .int .i64 0, .string ⟨#[]⟩, .string ⟨#[]⟩, .int .i64 0, .int .i64 0, .int .i64 0] 28) := ⟨_, rfl⟩
  have F0 : Hid (FcAt V0 Bf e) := Lib.hid (by rw [hV0, hBf]; exact (new_fact w e).over (below_alloc _ _))
  have R0 : Hid (FcAt V0 (Bf + 1) zE) := Lib.hid (by
    rw [hV0, hBf]
    have := heap_alloc_new (w.alloc (.cells #[.int .i64 e.f.n, .int .i64 e.f.tm, .int .i64 e.f.kd, .int .i64 e.f.st, .string ⟨e.f.lg.toArray⟩, .int .i64 e.f.rv, .int .i64 e.f.bs, .string ⟨e.f.ti.toArray⟩, .string ⟨e.f.au.toArray⟩, .slice e.ta e.tn e.tc, .slice e.ba e.bn e.bc, .int .i64 e.f.lb.u, .slice e.la e.ln e.lc, .int .i64 e.f.lb.ap, .int .i64 e.f.lb.d, .int .i64 e.f.ed, .int .i64 e.f.bk, .int .i64 e.f.se, .string ⟨e.f.tx.toArray⟩, .string ⟨e.f.nm.toArray⟩, .int .i64 e.f.pt, .int .i64 e.f.cl, .int .i64 e.f.un] 28)) (.cells #[.int .i64 0, .int .i64 0, .int .i64 0, .int .i64 0, .string ⟨#[]⟩, .int .i64 0, .int .i64 0, .string ⟨#[]⟩, .string ⟨#[]⟩, .slice none 0 0, .slice none 0 0, .int .i64 0, .slice none 0 0, .int .i64 0, .int .i64 0, .int .i64 0, .int .i64 0, .int .i64 0, .string ⟨#[]⟩, .string ⟨#[]⟩, .int .i64 0, .int .i64 0, .int .i64 0] 28)
    rw [show (w.alloc (.cells #[.int .i64 e.f.n, .int .i64 e.f.tm, .int .i64 e.f.kd, .int .i64 e.f.st, .string ⟨e.f.lg.toArray⟩, .int .i64 e.f.rv, .int .i64 e.f.bs, .string ⟨e.f.ti.toArray⟩, .string ⟨e.f.au.toArray⟩, .slice e.ta e.tn e.tc, .slice e.ba e.bn e.bc, .int .i64 e.f.lb.u, .slice e.la e.ln e.lc, .int .i64 e.f.lb.ap, .int .i64 e.f.lb.d, .int .i64 e.f.ed, .int .i64 e.f.bk, .int .i64 e.f.se, .string ⟨e.f.tx.toArray⟩, .string ⟨e.f.nm.toArray⟩, .int .i64 e.f.pt, .int .i64 e.f.cl, .int .i64 e.f.un] 28)).heap.size = w.heap.size + 1 by simp] at this
    exact this)
  have B0 : Hid (Below Bf w V0) := Lib.hid (by rw [hV0, hBf]; exact bel2 (below_alloc w _) (below_alloc _ _))
  have S0 : Hid (V0.heap.size = Bf + 2) := Lib.hid (by rw [hV0, hBf]; simp)
  have HV0 := Lib.hid hV0
  have hBs : w.heap.size = Bf := hBf.symm
  have HOK := Lib.hid h
  clear hV0 hBf h
  have zsz := mk_size' e.f.nm
  have hcat : (⟨e.f.nm.toArray⟩ : ByteArray) ++ ⟨#[97]⟩ = ⟨(e.f.nm ++ [97]).toArray⟩ := bytes_ext (by simp)
  obtain ⟨d, hd⟩ : ∃ d : FE, d = { e with f := { e.f with nm := e.f.nm ++ [97] } } := ⟨_, rfl⟩
  have G2 : Hid (FcAt (V0.setCell ⟨Bf, 19, none⟩ (.string ⟨(e.f.nm ++ [97]).toArray⟩)) Bf d) := Lib.hid (by rw [hd]; exact F0.out.set 19 _ rfl)
  have R2 : Hid ((V0.setCell ⟨Bf, 19, none⟩ (.string ⟨(e.f.nm ++ [97]).toArray⟩)).there (Bf + 1) 0 23) := Lib.hid (R0.out.other (by omega)).there
  have HD := Lib.hid hd
  have co : V0.cell? ⟨Bf, 19, none⟩ = some (.string ⟨e.f.nm.toArray⟩) := F0.out.cell 19
  have fo := Joins.unfrozen_of_block F0.out 19
  have K2 : Hid (Kp (RG Bf (Bf + 1)) V0 ((V0.setCell ⟨Bf, 19, none⟩ (.string ⟨(e.f.nm ++ [97]).toArray⟩)).setCells (Bf + 1) 0 (elF d))) := Lib.hid (Kp.setCells (.inr rfl) _ _ _ ((Kp.refl _ _).setCell (.inl rfl) _ _))
  clear hd R0 F0
  go_enter Tryz.func18, Tryz.ntmps18
  go_wp2_with fail
  rw [← HV0.out]
  refine (KP.out _).mono ?_
  rintro x w1 ⟨rfl, rfl⟩
  go_wp2_with (first | (refine wpList_load28 _ Bf d ?F rfl rfl rfl ?_; (case F => exact G2.out)) | (refine wpList_storeK (Bf + 1) d ?T _ _ rfl rfl rfl rfl ?_; (case T => exact R2.out)))
  have hbz : Below w.heap.size w ((V0.setCell ⟨Bf, 19, none⟩ (.string ⟨(e.f.nm ++ [97]).toArray⟩)).setCells (Bf + 1) 0 (elF d)) := by
    rw [hBs]
    exact B0.out.trans (K2.out.below (by have := S0.out; omega) (by rintro q (rfl | rfl) <;> omega))
  have hrr := World.rangeAt_setCells_same (V0.setCell ⟨Bf, 19, none⟩ (.string ⟨(e.f.nm ++ [97]).toArray⟩)) (Bf + 1) 0 (elF d) (by simpa [elF] using R2.out)
  refine ⟨rfl, aggF d, results_one (k := 4) (t1 := 28) (by kernel_rfl) (load_fact hrr) (by rfl), d, rfl, by rw [HD.out]; rfl, ?_, hbz⟩
  have ok := HOK.out.over hbz
  revert ok
  generalize (V0.setCell ⟨Bf, 19, none⟩ (.string ⟨(e.f.nm ++ [97]).toArray⟩)).setCells (Bf + 1) 0 (elF d) = Wz
  intro ok
  rw [HD.out]
  obtain ⟨o1, o2, o3, ⟨i1, i2, i3, i4, i5, i6, i7, i8, i9, i10, i11, i12⟩, ⟨s1, s2, s3, s4, s5⟩⟩ := ok
  exact ⟨o1, o2, o3, ⟨i1, i2, i3, i4, i5, i6, i7, i8, i9, i10, i11, i12⟩, ⟨s1, s2, s3, s4, by show (e.f.nm ++ [97]).length ≤ _; rw [List.length_append]; unfold maxLen; simp; omega⟩⟩
set_option maxHeartbeats 8000000 in
theorem spoil_2 (e : FE) (c : Int) (KP : Hid (∀ w, Calls Tryz.prog 16 #[.int .i64 c, .int .i64 9] w fun x w' => x = .returned (.int .i64 2) ∧ w = w')) (w : World) (h : FeOk w e) (z1 : e.f.pt ≤ 1000) (z2 : -1000 ≤ e.f.pt) :
    Calls Tryz.prog 18 #[.agg #[.int .i64 e.f.n, .int .i64 e.f.tm, .int .i64 e.f.kd, .int .i64 e.f.st, .string ⟨e.f.lg.toArray⟩, .int .i64 e.f.rv, .int .i64 e.f.bs, .string ⟨e.f.ti.toArray⟩, .string ⟨e.f.au.toArray⟩, .slice e.ta e.tn e.tc, .slice e.ba e.bn e.bc, .int .i64 e.f.lb.u, .slice e.la e.ln e.lc, .int .i64 e.f.lb.ap, .int .i64 e.f.lb.d, .int .i64 e.f.ed, .int .i64 e.f.bk, .int .i64 e.f.se, .string ⟨e.f.tx.toArray⟩, .string ⟨e.f.nm.toArray⟩, .int .i64 e.f.pt, .int .i64 e.f.cl, .int .i64 e.f.un], .int .i64 c] w (SpOut 2 e w) := by
  obtain ⟨Bf, hBf⟩ : ∃ Bf, Bf = w.heap.size := ⟨_, rfl⟩
  obtain ⟨V0, hV0⟩ : ∃ V0, V0 = (w.alloc (.cells #[.int .i64 e.f.n, .int .i64 e.f.tm, .int .i64 e.f.kd, .int .i64 e.f.st, .string ⟨e.f.lg.toArray⟩, .int .i64 e.f.rv, .int .i64 e.f.bs, .string ⟨e.f.ti.toArray⟩, .string ⟨e.f.au.toArray⟩, .slice e.ta e.tn e.tc, .slice e.ba e.bn e.bc, .int .i64 e.f.lb.u, .slice e.la e.ln e.lc, .int .i64 e.f.lb.ap, .int .i64 e.f.lb.d, .int .i64 e.f.ed, .int .i64 e.f.bk, .int .i64 e.f.se, .string ⟨e.f.tx.toArray⟩, .string ⟨e.f.nm.toArray⟩, .int .i64 e.f.pt, .int .i64 e.f.cl, .int .i64 e.f.un] 28)).alloc (.cells #[.int .i64 0, .int .i64 0, .int .i64 0, .int .i64 0, .string ⟨#[]⟩, .int .i64 0, .int .i64 0, .string ⟨#[]⟩, .string ⟨#[]⟩, .slice none 0 0, .slice none 0 0, .int .i64 0, .slice none 0 0, .int .i64 0, .int .i64 0, .int .i64 0, .int .i64 0, .int .i64 0, .string ⟨#[]⟩, .string ⟨#[]⟩, .int .i64 0, .int .i64 0, .int .i64 0] 28) := ⟨_, rfl⟩
  have F0 : Hid (FcAt V0 Bf e) := Lib.hid (by rw [hV0, hBf]; exact (new_fact w e).over (below_alloc _ _))
  have R0 : Hid (FcAt V0 (Bf + 1) zE) := Lib.hid (by
    rw [hV0, hBf]
    have := heap_alloc_new (w.alloc (.cells #[.int .i64 e.f.n, .int .i64 e.f.tm, .int .i64 e.f.kd, .int .i64 e.f.st, .string ⟨e.f.lg.toArray⟩, .int .i64 e.f.rv, .int .i64 e.f.bs, .string ⟨e.f.ti.toArray⟩, .string ⟨e.f.au.toArray⟩, .slice e.ta e.tn e.tc, .slice e.ba e.bn e.bc, .int .i64 e.f.lb.u, .slice e.la e.ln e.lc, .int .i64 e.f.lb.ap, .int .i64 e.f.lb.d, .int .i64 e.f.ed, .int .i64 e.f.bk, .int .i64 e.f.se, .string ⟨e.f.tx.toArray⟩, .string ⟨e.f.nm.toArray⟩, .int .i64 e.f.pt, .int .i64 e.f.cl, .int .i64 e.f.un] 28)) (.cells #[.int .i64 0, .int .i64 0, .int .i64 0, .int .i64 0, .string ⟨#[]⟩, .int .i64 0, .int .i64 0, .string ⟨#[]⟩, .string ⟨#[]⟩, .slice none 0 0, .slice none 0 0, .int .i64 0, .slice none 0 0, .int .i64 0, .int .i64 0, .int .i64 0, .int .i64 0, .int .i64 0, .string ⟨#[]⟩, .string ⟨#[]⟩, .int .i64 0, .int .i64 0, .int .i64 0] 28)
    rw [show (w.alloc (.cells #[.int .i64 e.f.n, .int .i64 e.f.tm, .int .i64 e.f.kd, .int .i64 e.f.st, .string ⟨e.f.lg.toArray⟩, .int .i64 e.f.rv, .int .i64 e.f.bs, .string ⟨e.f.ti.toArray⟩, .string ⟨e.f.au.toArray⟩, .slice e.ta e.tn e.tc, .slice e.ba e.bn e.bc, .int .i64 e.f.lb.u, .slice e.la e.ln e.lc, .int .i64 e.f.lb.ap, .int .i64 e.f.lb.d, .int .i64 e.f.ed, .int .i64 e.f.bk, .int .i64 e.f.se, .string ⟨e.f.tx.toArray⟩, .string ⟨e.f.nm.toArray⟩, .int .i64 e.f.pt, .int .i64 e.f.cl, .int .i64 e.f.un] 28)).heap.size = w.heap.size + 1 by simp] at this
    exact this)
  have B0 : Hid (Below Bf w V0) := Lib.hid (by rw [hV0, hBf]; exact bel2 (below_alloc w _) (below_alloc _ _))
  have S0 : Hid (V0.heap.size = Bf + 2) := Lib.hid (by rw [hV0, hBf]; simp)
  have HV0 := Lib.hid hV0
  have hBs : w.heap.size = Bf := hBf.symm
  have HOK := Lib.hid h
  clear hV0 hBf h
  obtain ⟨d, hd⟩ : ∃ d : FE, d = { e with f := { e.f with pt := e.f.pt + 1 } } := ⟨_, rfl⟩
  have G2 : Hid (FcAt (V0.setCell ⟨Bf, 20, none⟩ (.int .i64 (e.f.pt + 1))) Bf d) := Lib.hid (by rw [hd]; exact F0.out.set 20 _ rfl)
  have R2 : Hid ((V0.setCell ⟨Bf, 20, none⟩ (.int .i64 (e.f.pt + 1))).there (Bf + 1) 0 23) := Lib.hid (R0.out.other (by omega)).there
  have HD := Lib.hid hd
  have co : V0.cell? ⟨Bf, 20, none⟩ = some (.int .i64 e.f.pt) := F0.out.cell 20
  have fo := Joins.unfrozen_of_block F0.out 20
  have K2 : Hid (Kp (RG Bf (Bf + 1)) V0 ((V0.setCell ⟨Bf, 20, none⟩ (.int .i64 (e.f.pt + 1))).setCells (Bf + 1) 0 (elF d))) := Lib.hid (Kp.setCells (.inr rfl) _ _ _ ((Kp.refl _ _).setCell (.inl rfl) _ _))
  clear hd R0 F0
  go_enter Tryz.func18, Tryz.ntmps18
  go_wp2_with fail
  rw [← HV0.out]
  refine (KP.out _).mono ?_
  rintro x w1 ⟨rfl, rfl⟩
  go_wp2_with (first | (refine wpList_load28 _ Bf d ?F rfl rfl rfl ?_; (case F => exact G2.out)) | (refine wpList_storeK (Bf + 1) d ?T _ _ rfl rfl rfl rfl ?_; (case T => exact R2.out)))
  have hbz : Below w.heap.size w ((V0.setCell ⟨Bf, 20, none⟩ (.int .i64 (e.f.pt + 1))).setCells (Bf + 1) 0 (elF d)) := by
    rw [hBs]
    exact B0.out.trans (K2.out.below (by have := S0.out; omega) (by rintro q (rfl | rfl) <;> omega))
  have hrr := World.rangeAt_setCells_same (V0.setCell ⟨Bf, 20, none⟩ (.int .i64 (e.f.pt + 1))) (Bf + 1) 0 (elF d) (by simpa [elF] using R2.out)
  refine ⟨rfl, aggF d, results_one (k := 4) (t1 := 28) (by kernel_rfl) (load_fact hrr) (by rfl), d, rfl, by rw [HD.out]; rfl, ?_, hbz⟩
  have ok := HOK.out.over hbz
  revert ok
  generalize (V0.setCell ⟨Bf, 20, none⟩ (.int .i64 (e.f.pt + 1))).setCells (Bf + 1) 0 (elF d) = Wz
  intro ok
  rw [HD.out]
  obtain ⟨o1, o2, o3, ⟨i1, i2, i3, i4, i5, i6, i7, i8, i9, i10, i11, i12⟩, ⟨s1, s2, s3, s4, s5⟩⟩ := ok
  exact ⟨o1, o2, o3, ⟨i1, i2, i3, i4, i5, i6, i7, i8, i9, ⟨by show _ ≤ e.f.pt + 1; omega, by show e.f.pt + 1 ≤ _; omega⟩, i11, i12⟩, ⟨s1, s2, s3, s4, s5⟩⟩
set_option maxHeartbeats 8000000 in
theorem spoil_3 (e : FE) (c : Int) (KP : Hid (∀ w, Calls Tryz.prog 16 #[.int .i64 c, .int .i64 9] w fun x w' => x = .returned (.int .i64 3) ∧ w = w')) (w : World) (h : FeOk w e) (z1 : e.f.cl ≤ 1000) (z2 : -1000 ≤ e.f.cl) :
    Calls Tryz.prog 18 #[.agg #[.int .i64 e.f.n, .int .i64 e.f.tm, .int .i64 e.f.kd, .int .i64 e.f.st, .string ⟨e.f.lg.toArray⟩, .int .i64 e.f.rv, .int .i64 e.f.bs, .string ⟨e.f.ti.toArray⟩, .string ⟨e.f.au.toArray⟩, .slice e.ta e.tn e.tc, .slice e.ba e.bn e.bc, .int .i64 e.f.lb.u, .slice e.la e.ln e.lc, .int .i64 e.f.lb.ap, .int .i64 e.f.lb.d, .int .i64 e.f.ed, .int .i64 e.f.bk, .int .i64 e.f.se, .string ⟨e.f.tx.toArray⟩, .string ⟨e.f.nm.toArray⟩, .int .i64 e.f.pt, .int .i64 e.f.cl, .int .i64 e.f.un], .int .i64 c] w (SpOut 3 e w) := by
  obtain ⟨Bf, hBf⟩ : ∃ Bf, Bf = w.heap.size := ⟨_, rfl⟩
  obtain ⟨V0, hV0⟩ : ∃ V0, V0 = (w.alloc (.cells #[.int .i64 e.f.n, .int .i64 e.f.tm, .int .i64 e.f.kd, .int .i64 e.f.st, .string ⟨e.f.lg.toArray⟩, .int .i64 e.f.rv, .int .i64 e.f.bs, .string ⟨e.f.ti.toArray⟩, .string ⟨e.f.au.toArray⟩, .slice e.ta e.tn e.tc, .slice e.ba e.bn e.bc, .int .i64 e.f.lb.u, .slice e.la e.ln e.lc, .int .i64 e.f.lb.ap, .int .i64 e.f.lb.d, .int .i64 e.f.ed, .int .i64 e.f.bk, .int .i64 e.f.se, .string ⟨e.f.tx.toArray⟩, .string ⟨e.f.nm.toArray⟩, .int .i64 e.f.pt, .int .i64 e.f.cl, .int .i64 e.f.un] 28)).alloc (.cells #[.int .i64 0, .int .i64 0, .int .i64 0, .int .i64 0, .string ⟨#[]⟩, .int .i64 0, .int .i64 0, .string ⟨#[]⟩, .string ⟨#[]⟩, .slice none 0 0, .slice none 0 0, .int .i64 0, .slice none 0 0, .int .i64 0, .int .i64 0, .int .i64 0, .int .i64 0, .int .i64 0, .string ⟨#[]⟩, .string ⟨#[]⟩, .int .i64 0, .int .i64 0, .int .i64 0] 28) := ⟨_, rfl⟩
  have F0 : Hid (FcAt V0 Bf e) := Lib.hid (by rw [hV0, hBf]; exact (new_fact w e).over (below_alloc _ _))
  have R0 : Hid (FcAt V0 (Bf + 1) zE) := Lib.hid (by
    rw [hV0, hBf]
    have := heap_alloc_new (w.alloc (.cells #[.int .i64 e.f.n, .int .i64 e.f.tm, .int .i64 e.f.kd, .int .i64 e.f.st, .string ⟨e.f.lg.toArray⟩, .int .i64 e.f.rv, .int .i64 e.f.bs, .string ⟨e.f.ti.toArray⟩, .string ⟨e.f.au.toArray⟩, .slice e.ta e.tn e.tc, .slice e.ba e.bn e.bc, .int .i64 e.f.lb.u, .slice e.la e.ln e.lc, .int .i64 e.f.lb.ap, .int .i64 e.f.lb.d, .int .i64 e.f.ed, .int .i64 e.f.bk, .int .i64 e.f.se, .string ⟨e.f.tx.toArray⟩, .string ⟨e.f.nm.toArray⟩, .int .i64 e.f.pt, .int .i64 e.f.cl, .int .i64 e.f.un] 28)) (.cells #[.int .i64 0, .int .i64 0, .int .i64 0, .int .i64 0, .string ⟨#[]⟩, .int .i64 0, .int .i64 0, .string ⟨#[]⟩, .string ⟨#[]⟩, .slice none 0 0, .slice none 0 0, .int .i64 0, .slice none 0 0, .int .i64 0, .int .i64 0, .int .i64 0, .int .i64 0, .int .i64 0, .string ⟨#[]⟩, .string ⟨#[]⟩, .int .i64 0, .int .i64 0, .int .i64 0] 28)
    rw [show (w.alloc (.cells #[.int .i64 e.f.n, .int .i64 e.f.tm, .int .i64 e.f.kd, .int .i64 e.f.st, .string ⟨e.f.lg.toArray⟩, .int .i64 e.f.rv, .int .i64 e.f.bs, .string ⟨e.f.ti.toArray⟩, .string ⟨e.f.au.toArray⟩, .slice e.ta e.tn e.tc, .slice e.ba e.bn e.bc, .int .i64 e.f.lb.u, .slice e.la e.ln e.lc, .int .i64 e.f.lb.ap, .int .i64 e.f.lb.d, .int .i64 e.f.ed, .int .i64 e.f.bk, .int .i64 e.f.se, .string ⟨e.f.tx.toArray⟩, .string ⟨e.f.nm.toArray⟩, .int .i64 e.f.pt, .int .i64 e.f.cl, .int .i64 e.f.un] 28)).heap.size = w.heap.size + 1 by simp] at this
    exact this)
  have B0 : Hid (Below Bf w V0) := Lib.hid (by rw [hV0, hBf]; exact bel2 (below_alloc w _) (below_alloc _ _))
  have S0 : Hid (V0.heap.size = Bf + 2) := Lib.hid (by rw [hV0, hBf]; simp)
  have HV0 := Lib.hid hV0
  have hBs : w.heap.size = Bf := hBf.symm
  have HOK := Lib.hid h
  clear hV0 hBf h
  obtain ⟨d, hd⟩ : ∃ d : FE, d = { e with f := { e.f with cl := e.f.cl + 1 } } := ⟨_, rfl⟩
  have G2 : Hid (FcAt (V0.setCell ⟨Bf, 21, none⟩ (.int .i64 (e.f.cl + 1))) Bf d) := Lib.hid (by rw [hd]; exact F0.out.set 21 _ rfl)
  have R2 : Hid ((V0.setCell ⟨Bf, 21, none⟩ (.int .i64 (e.f.cl + 1))).there (Bf + 1) 0 23) := Lib.hid (R0.out.other (by omega)).there
  have HD := Lib.hid hd
  have co : V0.cell? ⟨Bf, 21, none⟩ = some (.int .i64 e.f.cl) := F0.out.cell 21
  have fo := Joins.unfrozen_of_block F0.out 21
  have K2 : Hid (Kp (RG Bf (Bf + 1)) V0 ((V0.setCell ⟨Bf, 21, none⟩ (.int .i64 (e.f.cl + 1))).setCells (Bf + 1) 0 (elF d))) := Lib.hid (Kp.setCells (.inr rfl) _ _ _ ((Kp.refl _ _).setCell (.inl rfl) _ _))
  clear hd R0 F0
  go_enter Tryz.func18, Tryz.ntmps18
  go_wp2_with fail
  rw [← HV0.out]
  refine (KP.out _).mono ?_
  rintro x w1 ⟨rfl, rfl⟩
  go_wp2_with (first | (refine wpList_load28 _ Bf d ?F rfl rfl rfl ?_; (case F => exact G2.out)) | (refine wpList_storeK (Bf + 1) d ?T _ _ rfl rfl rfl rfl ?_; (case T => exact R2.out)))
  have hbz : Below w.heap.size w ((V0.setCell ⟨Bf, 21, none⟩ (.int .i64 (e.f.cl + 1))).setCells (Bf + 1) 0 (elF d)) := by
    rw [hBs]
    exact B0.out.trans (K2.out.below (by have := S0.out; omega) (by rintro q (rfl | rfl) <;> omega))
  have hrr := World.rangeAt_setCells_same (V0.setCell ⟨Bf, 21, none⟩ (.int .i64 (e.f.cl + 1))) (Bf + 1) 0 (elF d) (by simpa [elF] using R2.out)
  refine ⟨rfl, aggF d, results_one (k := 4) (t1 := 28) (by kernel_rfl) (load_fact hrr) (by rfl), d, rfl, by rw [HD.out]; rfl, ?_, hbz⟩
  have ok := HOK.out.over hbz
  revert ok
  generalize (V0.setCell ⟨Bf, 21, none⟩ (.int .i64 (e.f.cl + 1))).setCells (Bf + 1) 0 (elF d) = Wz
  intro ok
  rw [HD.out]
  obtain ⟨o1, o2, o3, ⟨i1, i2, i3, i4, i5, i6, i7, i8, i9, i10, i11, i12⟩, ⟨s1, s2, s3, s4, s5⟩⟩ := ok
  exact ⟨o1, o2, o3, ⟨i1, i2, i3, i4, i5, i6, i7, i8, i9, i10, ⟨by show _ ≤ e.f.cl + 1; omega, by show e.f.cl + 1 ≤ _; omega⟩, i12⟩, ⟨s1, s2, s3, s4, s5⟩⟩
set_option maxHeartbeats 8000000 in
theorem spoil_4 (e : FE) (c : Int) (KP : Hid (∀ w, Calls Tryz.prog 16 #[.int .i64 c, .int .i64 9] w fun x w' => x = .returned (.int .i64 4) ∧ w = w')) (w : World) (h : FeOk w e) (z1 : e.f.lg.length ≤ 1000) :
    Calls Tryz.prog 18 #[.agg #[.int .i64 e.f.n, .int .i64 e.f.tm, .int .i64 e.f.kd, .int .i64 e.f.st, .string ⟨e.f.lg.toArray⟩, .int .i64 e.f.rv, .int .i64 e.f.bs, .string ⟨e.f.ti.toArray⟩, .string ⟨e.f.au.toArray⟩, .slice e.ta e.tn e.tc, .slice e.ba e.bn e.bc, .int .i64 e.f.lb.u, .slice e.la e.ln e.lc, .int .i64 e.f.lb.ap, .int .i64 e.f.lb.d, .int .i64 e.f.ed, .int .i64 e.f.bk, .int .i64 e.f.se, .string ⟨e.f.tx.toArray⟩, .string ⟨e.f.nm.toArray⟩, .int .i64 e.f.pt, .int .i64 e.f.cl, .int .i64 e.f.un], .int .i64 c] w (SpOut 4 e w) := by
  obtain ⟨Bf, hBf⟩ : ∃ Bf, Bf = w.heap.size := ⟨_, rfl⟩
  obtain ⟨V0, hV0⟩ : ∃ V0, V0 = (w.alloc (.cells #[.int .i64 e.f.n, .int .i64 e.f.tm, .int .i64 e.f.kd, .int .i64 e.f.st, .string ⟨e.f.lg.toArray⟩, .int .i64 e.f.rv, .int .i64 e.f.bs, .string ⟨e.f.ti.toArray⟩, .string ⟨e.f.au.toArray⟩, .slice e.ta e.tn e.tc, .slice e.ba e.bn e.bc, .int .i64 e.f.lb.u, .slice e.la e.ln e.lc, .int .i64 e.f.lb.ap, .int .i64 e.f.lb.d, .int .i64 e.f.ed, .int .i64 e.f.bk, .int .i64 e.f.se, .string ⟨e.f.tx.toArray⟩, .string ⟨e.f.nm.toArray⟩, .int .i64 e.f.pt, .int .i64 e.f.cl, .int .i64 e.f.un] 28)).alloc (.cells #[.int .i64 0, .int .i64 0, .int .i64 0, .int .i64 0, .string ⟨#[]⟩, .int .i64 0, .int .i64 0, .string ⟨#[]⟩, .string ⟨#[]⟩, .slice none 0 0, .slice none 0 0, .int .i64 0, .slice none 0 0, .int .i64 0, .int .i64 0, .int .i64 0, .int .i64 0, .int .i64 0, .string ⟨#[]⟩, .string ⟨#[]⟩, .int .i64 0, .int .i64 0, .int .i64 0] 28) := ⟨_, rfl⟩
  have F0 : Hid (FcAt V0 Bf e) := Lib.hid (by rw [hV0, hBf]; exact (new_fact w e).over (below_alloc _ _))
  have R0 : Hid (FcAt V0 (Bf + 1) zE) := Lib.hid (by
    rw [hV0, hBf]
    have := heap_alloc_new (w.alloc (.cells #[.int .i64 e.f.n, .int .i64 e.f.tm, .int .i64 e.f.kd, .int .i64 e.f.st, .string ⟨e.f.lg.toArray⟩, .int .i64 e.f.rv, .int .i64 e.f.bs, .string ⟨e.f.ti.toArray⟩, .string ⟨e.f.au.toArray⟩, .slice e.ta e.tn e.tc, .slice e.ba e.bn e.bc, .int .i64 e.f.lb.u, .slice e.la e.ln e.lc, .int .i64 e.f.lb.ap, .int .i64 e.f.lb.d, .int .i64 e.f.ed, .int .i64 e.f.bk, .int .i64 e.f.se, .string ⟨e.f.tx.toArray⟩, .string ⟨e.f.nm.toArray⟩, .int .i64 e.f.pt, .int .i64 e.f.cl, .int .i64 e.f.un] 28)) (.cells #[.int .i64 0, .int .i64 0, .int .i64 0, .int .i64 0, .string ⟨#[]⟩, .int .i64 0, .int .i64 0, .string ⟨#[]⟩, .string ⟨#[]⟩, .slice none 0 0, .slice none 0 0, .int .i64 0, .slice none 0 0, .int .i64 0, .int .i64 0, .int .i64 0, .int .i64 0, .int .i64 0, .string ⟨#[]⟩, .string ⟨#[]⟩, .int .i64 0, .int .i64 0, .int .i64 0] 28)
    rw [show (w.alloc (.cells #[.int .i64 e.f.n, .int .i64 e.f.tm, .int .i64 e.f.kd, .int .i64 e.f.st, .string ⟨e.f.lg.toArray⟩, .int .i64 e.f.rv, .int .i64 e.f.bs, .string ⟨e.f.ti.toArray⟩, .string ⟨e.f.au.toArray⟩, .slice e.ta e.tn e.tc, .slice e.ba e.bn e.bc, .int .i64 e.f.lb.u, .slice e.la e.ln e.lc, .int .i64 e.f.lb.ap, .int .i64 e.f.lb.d, .int .i64 e.f.ed, .int .i64 e.f.bk, .int .i64 e.f.se, .string ⟨e.f.tx.toArray⟩, .string ⟨e.f.nm.toArray⟩, .int .i64 e.f.pt, .int .i64 e.f.cl, .int .i64 e.f.un] 28)).heap.size = w.heap.size + 1 by simp] at this
    exact this)
  have B0 : Hid (Below Bf w V0) := Lib.hid (by rw [hV0, hBf]; exact bel2 (below_alloc w _) (below_alloc _ _))
  have S0 : Hid (V0.heap.size = Bf + 2) := Lib.hid (by rw [hV0, hBf]; simp)
  have HV0 := Lib.hid hV0
  have hBs : w.heap.size = Bf := hBf.symm
  have HOK := Lib.hid h
  clear hV0 hBf h
  have zsz := mk_size' e.f.lg
  have hcat : (⟨e.f.lg.toArray⟩ : ByteArray) ++ ⟨#[101]⟩ = ⟨(e.f.lg ++ [101]).toArray⟩ := bytes_ext (by simp)
  obtain ⟨d, hd⟩ : ∃ d : FE, d = { e with f := { e.f with lg := e.f.lg ++ [101] } } := ⟨_, rfl⟩
  have G2 : Hid (FcAt (V0.setCell ⟨Bf, 4, none⟩ (.string ⟨(e.f.lg ++ [101]).toArray⟩)) Bf d) := Lib.hid (by rw [hd]; exact F0.out.set 4 _ rfl)
  have R2 : Hid ((V0.setCell ⟨Bf, 4, none⟩ (.string ⟨(e.f.lg ++ [101]).toArray⟩)).there (Bf + 1) 0 23) := Lib.hid (R0.out.other (by omega)).there
  have HD := Lib.hid hd
  have co : V0.cell? ⟨Bf, 4, none⟩ = some (.string ⟨e.f.lg.toArray⟩) := F0.out.cell 4
  have fo := Joins.unfrozen_of_block F0.out 4
  have K2 : Hid (Kp (RG Bf (Bf + 1)) V0 ((V0.setCell ⟨Bf, 4, none⟩ (.string ⟨(e.f.lg ++ [101]).toArray⟩)).setCells (Bf + 1) 0 (elF d))) := Lib.hid (Kp.setCells (.inr rfl) _ _ _ ((Kp.refl _ _).setCell (.inl rfl) _ _))
  clear hd R0 F0
  go_enter Tryz.func18, Tryz.ntmps18
  go_wp2_with fail
  rw [← HV0.out]
  refine (KP.out _).mono ?_
  rintro x w1 ⟨rfl, rfl⟩
  go_wp2_with (first | (refine wpList_load28 _ Bf d ?F rfl rfl rfl ?_; (case F => exact G2.out)) | (refine wpList_storeK (Bf + 1) d ?T _ _ rfl rfl rfl rfl ?_; (case T => exact R2.out)))
  have hbz : Below w.heap.size w ((V0.setCell ⟨Bf, 4, none⟩ (.string ⟨(e.f.lg ++ [101]).toArray⟩)).setCells (Bf + 1) 0 (elF d)) := by
    rw [hBs]
    exact B0.out.trans (K2.out.below (by have := S0.out; omega) (by rintro q (rfl | rfl) <;> omega))
  have hrr := World.rangeAt_setCells_same (V0.setCell ⟨Bf, 4, none⟩ (.string ⟨(e.f.lg ++ [101]).toArray⟩)) (Bf + 1) 0 (elF d) (by simpa [elF] using R2.out)
  refine ⟨rfl, aggF d, results_one (k := 4) (t1 := 28) (by kernel_rfl) (load_fact hrr) (by rfl), d, rfl, by rw [HD.out]; rfl, ?_, hbz⟩
  have ok := HOK.out.over hbz
  revert ok
  generalize (V0.setCell ⟨Bf, 4, none⟩ (.string ⟨(e.f.lg ++ [101]).toArray⟩)).setCells (Bf + 1) 0 (elF d) = Wz
  intro ok
  rw [HD.out]
  obtain ⟨o1, o2, o3, ⟨i1, i2, i3, i4, i5, i6, i7, i8, i9, i10, i11, i12⟩, ⟨s1, s2, s3, s4, s5⟩⟩ := ok
  exact ⟨o1, o2, o3, ⟨i1, i2, i3, i4, i5, i6, i7, i8, i9, i10, i11, i12⟩, ⟨by show (e.f.lg ++ [101]).length ≤ _; rw [List.length_append]; unfold maxLen; simp; omega, s2, s3, s4, s5⟩⟩
set_option maxHeartbeats 8000000 in
theorem spoil_5 (e : FE) (c : Int) (KP : Hid (∀ w, Calls Tryz.prog 16 #[.int .i64 c, .int .i64 9] w fun x w' => x = .returned (.int .i64 5) ∧ w = w')) (w : World) (h : FeOk w e) (z1 : e.f.rv ≤ 1000) (z2 : -1000 ≤ e.f.rv) :
    Calls Tryz.prog 18 #[.agg #[.int .i64 e.f.n, .int .i64 e.f.tm, .int .i64 e.f.kd, .int .i64 e.f.st, .string ⟨e.f.lg.toArray⟩, .int .i64 e.f.rv, .int .i64 e.f.bs, .string ⟨e.f.ti.toArray⟩, .string ⟨e.f.au.toArray⟩, .slice e.ta e.tn e.tc, .slice e.ba e.bn e.bc, .int .i64 e.f.lb.u, .slice e.la e.ln e.lc, .int .i64 e.f.lb.ap, .int .i64 e.f.lb.d, .int .i64 e.f.ed, .int .i64 e.f.bk, .int .i64 e.f.se, .string ⟨e.f.tx.toArray⟩, .string ⟨e.f.nm.toArray⟩, .int .i64 e.f.pt, .int .i64 e.f.cl, .int .i64 e.f.un], .int .i64 c] w (SpOut 5 e w) := by
  obtain ⟨Bf, hBf⟩ : ∃ Bf, Bf = w.heap.size := ⟨_, rfl⟩
  obtain ⟨V0, hV0⟩ : ∃ V0, V0 = (w.alloc (.cells #[.int .i64 e.f.n, .int .i64 e.f.tm, .int .i64 e.f.kd, .int .i64 e.f.st, .string ⟨e.f.lg.toArray⟩, .int .i64 e.f.rv, .int .i64 e.f.bs, .string ⟨e.f.ti.toArray⟩, .string ⟨e.f.au.toArray⟩, .slice e.ta e.tn e.tc, .slice e.ba e.bn e.bc, .int .i64 e.f.lb.u, .slice e.la e.ln e.lc, .int .i64 e.f.lb.ap, .int .i64 e.f.lb.d, .int .i64 e.f.ed, .int .i64 e.f.bk, .int .i64 e.f.se, .string ⟨e.f.tx.toArray⟩, .string ⟨e.f.nm.toArray⟩, .int .i64 e.f.pt, .int .i64 e.f.cl, .int .i64 e.f.un] 28)).alloc (.cells #[.int .i64 0, .int .i64 0, .int .i64 0, .int .i64 0, .string ⟨#[]⟩, .int .i64 0, .int .i64 0, .string ⟨#[]⟩, .string ⟨#[]⟩, .slice none 0 0, .slice none 0 0, .int .i64 0, .slice none 0 0, .int .i64 0, .int .i64 0, .int .i64 0, .int .i64 0, .int .i64 0, .string ⟨#[]⟩, .string ⟨#[]⟩, .int .i64 0, .int .i64 0, .int .i64 0] 28) := ⟨_, rfl⟩
  have F0 : Hid (FcAt V0 Bf e) := Lib.hid (by rw [hV0, hBf]; exact (new_fact w e).over (below_alloc _ _))
  have R0 : Hid (FcAt V0 (Bf + 1) zE) := Lib.hid (by
    rw [hV0, hBf]
    have := heap_alloc_new (w.alloc (.cells #[.int .i64 e.f.n, .int .i64 e.f.tm, .int .i64 e.f.kd, .int .i64 e.f.st, .string ⟨e.f.lg.toArray⟩, .int .i64 e.f.rv, .int .i64 e.f.bs, .string ⟨e.f.ti.toArray⟩, .string ⟨e.f.au.toArray⟩, .slice e.ta e.tn e.tc, .slice e.ba e.bn e.bc, .int .i64 e.f.lb.u, .slice e.la e.ln e.lc, .int .i64 e.f.lb.ap, .int .i64 e.f.lb.d, .int .i64 e.f.ed, .int .i64 e.f.bk, .int .i64 e.f.se, .string ⟨e.f.tx.toArray⟩, .string ⟨e.f.nm.toArray⟩, .int .i64 e.f.pt, .int .i64 e.f.cl, .int .i64 e.f.un] 28)) (.cells #[.int .i64 0, .int .i64 0, .int .i64 0, .int .i64 0, .string ⟨#[]⟩, .int .i64 0, .int .i64 0, .string ⟨#[]⟩, .string ⟨#[]⟩, .slice none 0 0, .slice none 0 0, .int .i64 0, .slice none 0 0, .int .i64 0, .int .i64 0, .int .i64 0, .int .i64 0, .int .i64 0, .string ⟨#[]⟩, .string ⟨#[]⟩, .int .i64 0, .int .i64 0, .int .i64 0] 28)
    rw [show (w.alloc (.cells #[.int .i64 e.f.n, .int .i64 e.f.tm, .int .i64 e.f.kd, .int .i64 e.f.st, .string ⟨e.f.lg.toArray⟩, .int .i64 e.f.rv, .int .i64 e.f.bs, .string ⟨e.f.ti.toArray⟩, .string ⟨e.f.au.toArray⟩, .slice e.ta e.tn e.tc, .slice e.ba e.bn e.bc, .int .i64 e.f.lb.u, .slice e.la e.ln e.lc, .int .i64 e.f.lb.ap, .int .i64 e.f.lb.d, .int .i64 e.f.ed, .int .i64 e.f.bk, .int .i64 e.f.se, .string ⟨e.f.tx.toArray⟩, .string ⟨e.f.nm.toArray⟩, .int .i64 e.f.pt, .int .i64 e.f.cl, .int .i64 e.f.un] 28)).heap.size = w.heap.size + 1 by simp] at this
    exact this)
  have B0 : Hid (Below Bf w V0) := Lib.hid (by rw [hV0, hBf]; exact bel2 (below_alloc w _) (below_alloc _ _))
  have S0 : Hid (V0.heap.size = Bf + 2) := Lib.hid (by rw [hV0, hBf]; simp)
  have HV0 := Lib.hid hV0
  have hBs : w.heap.size = Bf := hBf.symm
  have HOK := Lib.hid h
  clear hV0 hBf h
  obtain ⟨d, hd⟩ : ∃ d : FE, d = { e with f := { e.f with rv := e.f.rv + 1 } } := ⟨_, rfl⟩
  have G2 : Hid (FcAt (V0.setCell ⟨Bf, 5, none⟩ (.int .i64 (e.f.rv + 1))) Bf d) := Lib.hid (by rw [hd]; exact F0.out.set 5 _ rfl)
  have R2 : Hid ((V0.setCell ⟨Bf, 5, none⟩ (.int .i64 (e.f.rv + 1))).there (Bf + 1) 0 23) := Lib.hid (R0.out.other (by omega)).there
  have HD := Lib.hid hd
  have co : V0.cell? ⟨Bf, 5, none⟩ = some (.int .i64 e.f.rv) := F0.out.cell 5
  have fo := Joins.unfrozen_of_block F0.out 5
  have K2 : Hid (Kp (RG Bf (Bf + 1)) V0 ((V0.setCell ⟨Bf, 5, none⟩ (.int .i64 (e.f.rv + 1))).setCells (Bf + 1) 0 (elF d))) := Lib.hid (Kp.setCells (.inr rfl) _ _ _ ((Kp.refl _ _).setCell (.inl rfl) _ _))
  clear hd R0 F0
  go_enter Tryz.func18, Tryz.ntmps18
  go_wp2_with fail
  rw [← HV0.out]
  refine (KP.out _).mono ?_
  rintro x w1 ⟨rfl, rfl⟩
  go_wp2_with (first | (refine wpList_load28 _ Bf d ?F rfl rfl rfl ?_; (case F => exact G2.out)) | (refine wpList_storeK (Bf + 1) d ?T _ _ rfl rfl rfl rfl ?_; (case T => exact R2.out)))
  have hbz : Below w.heap.size w ((V0.setCell ⟨Bf, 5, none⟩ (.int .i64 (e.f.rv + 1))).setCells (Bf + 1) 0 (elF d)) := by
    rw [hBs]
    exact B0.out.trans (K2.out.below (by have := S0.out; omega) (by rintro q (rfl | rfl) <;> omega))
  have hrr := World.rangeAt_setCells_same (V0.setCell ⟨Bf, 5, none⟩ (.int .i64 (e.f.rv + 1))) (Bf + 1) 0 (elF d) (by simpa [elF] using R2.out)
  refine ⟨rfl, aggF d, results_one (k := 4) (t1 := 28) (by kernel_rfl) (load_fact hrr) (by rfl), d, rfl, by rw [HD.out]; rfl, ?_, hbz⟩
  have ok := HOK.out.over hbz
  revert ok
  generalize (V0.setCell ⟨Bf, 5, none⟩ (.int .i64 (e.f.rv + 1))).setCells (Bf + 1) 0 (elF d) = Wz
  intro ok
  rw [HD.out]
  obtain ⟨o1, o2, o3, ⟨i1, i2, i3, i4, i5, i6, i7, i8, i9, i10, i11, i12⟩, ⟨s1, s2, s3, s4, s5⟩⟩ := ok
  exact ⟨o1, o2, o3, ⟨i1, i2, i3, i4, ⟨by show _ ≤ e.f.rv + 1; omega, by show e.f.rv + 1 ≤ _; omega⟩, i6, i7, i8, i9, i10, i11, i12⟩, ⟨s1, s2, s3, s4, s5⟩⟩
set_option maxHeartbeats 8000000 in
theorem spoil_6 (e : FE) (c : Int) (KP : Hid (∀ w, Calls Tryz.prog 16 #[.int .i64 c, .int .i64 9] w fun x w' => x = .returned (.int .i64 6) ∧ w = w')) (w : World) (h : FeOk w e) (z1 : e.f.lb.ap ≤ 1000) (z2 : -1000 ≤ e.f.lb.ap) :
    Calls Tryz.prog 18 #[.agg #[.int .i64 e.f.n, .int .i64 e.f.tm, .int .i64 e.f.kd, .int .i64 e.f.st, .string ⟨e.f.lg.toArray⟩, .int .i64 e.f.rv, .int .i64 e.f.bs, .string ⟨e.f.ti.toArray⟩, .string ⟨e.f.au.toArray⟩, .slice e.ta e.tn e.tc, .slice e.ba e.bn e.bc, .int .i64 e.f.lb.u, .slice e.la e.ln e.lc, .int .i64 e.f.lb.ap, .int .i64 e.f.lb.d, .int .i64 e.f.ed, .int .i64 e.f.bk, .int .i64 e.f.se, .string ⟨e.f.tx.toArray⟩, .string ⟨e.f.nm.toArray⟩, .int .i64 e.f.pt, .int .i64 e.f.cl, .int .i64 e.f.un], .int .i64 c] w (SpOut 6 e w) := by
  obtain ⟨Bf, hBf⟩ : ∃ Bf, Bf = w.heap.size := ⟨_, rfl⟩
  obtain ⟨V0, hV0⟩ : ∃ V0, V0 = (w.alloc (.cells #[.int .i64 e.f.n, .int .i64 e.f.tm, .int .i64 e.f.kd, .int .i64 e.f.st, .string ⟨e.f.lg.toArray⟩, .int .i64 e.f.rv, .int .i64 e.f.bs, .string ⟨e.f.ti.toArray⟩, .string ⟨e.f.au.toArray⟩, .slice e.ta e.tn e.tc, .slice e.ba e.bn e.bc, .int .i64 e.f.lb.u, .slice e.la e.ln e.lc, .int .i64 e.f.lb.ap, .int .i64 e.f.lb.d, .int .i64 e.f.ed, .int .i64 e.f.bk, .int .i64 e.f.se, .string ⟨e.f.tx.toArray⟩, .string ⟨e.f.nm.toArray⟩, .int .i64 e.f.pt, .int .i64 e.f.cl, .int .i64 e.f.un] 28)).alloc (.cells #[.int .i64 0, .int .i64 0, .int .i64 0, .int .i64 0, .string ⟨#[]⟩, .int .i64 0, .int .i64 0, .string ⟨#[]⟩, .string ⟨#[]⟩, .slice none 0 0, .slice none 0 0, .int .i64 0, .slice none 0 0, .int .i64 0, .int .i64 0, .int .i64 0, .int .i64 0, .int .i64 0, .string ⟨#[]⟩, .string ⟨#[]⟩, .int .i64 0, .int .i64 0, .int .i64 0] 28) := ⟨_, rfl⟩
  have F0 : Hid (FcAt V0 Bf e) := Lib.hid (by rw [hV0, hBf]; exact (new_fact w e).over (below_alloc _ _))
  have R0 : Hid (FcAt V0 (Bf + 1) zE) := Lib.hid (by
    rw [hV0, hBf]
    have := heap_alloc_new (w.alloc (.cells #[.int .i64 e.f.n, .int .i64 e.f.tm, .int .i64 e.f.kd, .int .i64 e.f.st, .string ⟨e.f.lg.toArray⟩, .int .i64 e.f.rv, .int .i64 e.f.bs, .string ⟨e.f.ti.toArray⟩, .string ⟨e.f.au.toArray⟩, .slice e.ta e.tn e.tc, .slice e.ba e.bn e.bc, .int .i64 e.f.lb.u, .slice e.la e.ln e.lc, .int .i64 e.f.lb.ap, .int .i64 e.f.lb.d, .int .i64 e.f.ed, .int .i64 e.f.bk, .int .i64 e.f.se, .string ⟨e.f.tx.toArray⟩, .string ⟨e.f.nm.toArray⟩, .int .i64 e.f.pt, .int .i64 e.f.cl, .int .i64 e.f.un] 28)) (.cells #[.int .i64 0, .int .i64 0, .int .i64 0, .int .i64 0, .string ⟨#[]⟩, .int .i64 0, .int .i64 0, .string ⟨#[]⟩, .string ⟨#[]⟩, .slice none 0 0, .slice none 0 0, .int .i64 0, .slice none 0 0, .int .i64 0, .int .i64 0, .int .i64 0, .int .i64 0, .int .i64 0, .string ⟨#[]⟩, .string ⟨#[]⟩, .int .i64 0, .int .i64 0, .int .i64 0] 28)
    rw [show (w.alloc (.cells #[.int .i64 e.f.n, .int .i64 e.f.tm, .int .i64 e.f.kd, .int .i64 e.f.st, .string ⟨e.f.lg.toArray⟩, .int .i64 e.f.rv, .int .i64 e.f.bs, .string ⟨e.f.ti.toArray⟩, .string ⟨e.f.au.toArray⟩, .slice e.ta e.tn e.tc, .slice e.ba e.bn e.bc, .int .i64 e.f.lb.u, .slice e.la e.ln e.lc, .int .i64 e.f.lb.ap, .int .i64 e.f.lb.d, .int .i64 e.f.ed, .int .i64 e.f.bk, .int .i64 e.f.se, .string ⟨e.f.tx.toArray⟩, .string ⟨e.f.nm.toArray⟩, .int .i64 e.f.pt, .int .i64 e.f.cl, .int .i64 e.f.un] 28)).heap.size = w.heap.size + 1 by simp] at this
    exact this)
  have B0 : Hid (Below Bf w V0) := Lib.hid (by rw [hV0, hBf]; exact bel2 (below_alloc w _) (below_alloc _ _))
  have S0 : Hid (V0.heap.size = Bf + 2) := Lib.hid (by rw [hV0, hBf]; simp)
  have HV0 := Lib.hid hV0
  have hBs : w.heap.size = Bf := hBf.symm
  have HOK := Lib.hid h
  clear hV0 hBf h
  obtain ⟨d, hd⟩ : ∃ d : FE, d = { e with f := { e.f with lb := ⟨e.f.lb.u, e.f.lb.af, e.f.lb.ap + 1, e.f.lb.d⟩ } } := ⟨_, rfl⟩
  have G2 : Hid (FcAt (V0.setCell ⟨Bf, 13, none⟩ (.int .i64 (e.f.lb.ap + 1))) Bf d) := Lib.hid (by rw [hd]; exact F0.out.set 13 _ rfl)
  have R2 : Hid ((V0.setCell ⟨Bf, 13, none⟩ (.int .i64 (e.f.lb.ap + 1))).there (Bf + 1) 0 23) := Lib.hid (R0.out.other (by omega)).there
  have HD := Lib.hid hd
  have co : V0.cell? ⟨Bf, 13, none⟩ = some (.int .i64 e.f.lb.ap) := F0.out.cell 13
  have fo := Joins.unfrozen_of_block F0.out 13
  have K2 : Hid (Kp (RG Bf (Bf + 1)) V0 ((V0.setCell ⟨Bf, 13, none⟩ (.int .i64 (e.f.lb.ap + 1))).setCells (Bf + 1) 0 (elF d))) := Lib.hid (Kp.setCells (.inr rfl) _ _ _ ((Kp.refl _ _).setCell (.inl rfl) _ _))
  clear hd R0 F0
  go_enter Tryz.func18, Tryz.ntmps18
  go_wp2_with fail
  rw [← HV0.out]
  refine (KP.out _).mono ?_
  rintro x w1 ⟨rfl, rfl⟩
  go_wp2_with (first | (refine wpList_load28 _ Bf d ?F rfl rfl rfl ?_; (case F => exact G2.out)) | (refine wpList_storeK (Bf + 1) d ?T _ _ rfl rfl rfl rfl ?_; (case T => exact R2.out)))
  have hbz : Below w.heap.size w ((V0.setCell ⟨Bf, 13, none⟩ (.int .i64 (e.f.lb.ap + 1))).setCells (Bf + 1) 0 (elF d)) := by
    rw [hBs]
    exact B0.out.trans (K2.out.below (by have := S0.out; omega) (by rintro q (rfl | rfl) <;> omega))
  have hrr := World.rangeAt_setCells_same (V0.setCell ⟨Bf, 13, none⟩ (.int .i64 (e.f.lb.ap + 1))) (Bf + 1) 0 (elF d) (by simpa [elF] using R2.out)
  refine ⟨rfl, aggF d, results_one (k := 4) (t1 := 28) (by kernel_rfl) (load_fact hrr) (by rfl), d, rfl, by rw [HD.out]; rfl, ?_, hbz⟩
  have ok := HOK.out.over hbz
  revert ok
  generalize (V0.setCell ⟨Bf, 13, none⟩ (.int .i64 (e.f.lb.ap + 1))).setCells (Bf + 1) 0 (elF d) = Wz
  intro ok
  rw [HD.out]
  obtain ⟨o1, o2, o3, ⟨i1, i2, i3, i4, i5, i6, i7, i8, i9, i10, i11, i12⟩, ⟨s1, s2, s3, s4, s5⟩⟩ := ok
  exact ⟨o1, o2, ⟨o3.1, o3.2.1, ⟨by show _ ≤ e.f.lb.ap + 1; omega, by show e.f.lb.ap + 1 ≤ _; omega⟩, o3.2.2.2⟩, ⟨i1, i2, i3, i4, i5, i6, i7, i8, i9, i10, i11, i12⟩, ⟨s1, s2, s3, s4, s5⟩⟩
set_option maxHeartbeats 8000000 in
theorem spoil_8 (e : FE) (c : Int) (KP : Hid (∀ w, Calls Tryz.prog 16 #[.int .i64 c, .int .i64 9] w fun x w' => x = .returned (.int .i64 8) ∧ w = w')) (w : World) (h : FeOk w e) (z1 : e.f.bk ≤ 1000) (z2 : -1000 ≤ e.f.bk) :
    Calls Tryz.prog 18 #[.agg #[.int .i64 e.f.n, .int .i64 e.f.tm, .int .i64 e.f.kd, .int .i64 e.f.st, .string ⟨e.f.lg.toArray⟩, .int .i64 e.f.rv, .int .i64 e.f.bs, .string ⟨e.f.ti.toArray⟩, .string ⟨e.f.au.toArray⟩, .slice e.ta e.tn e.tc, .slice e.ba e.bn e.bc, .int .i64 e.f.lb.u, .slice e.la e.ln e.lc, .int .i64 e.f.lb.ap, .int .i64 e.f.lb.d, .int .i64 e.f.ed, .int .i64 e.f.bk, .int .i64 e.f.se, .string ⟨e.f.tx.toArray⟩, .string ⟨e.f.nm.toArray⟩, .int .i64 e.f.pt, .int .i64 e.f.cl, .int .i64 e.f.un], .int .i64 c] w (SpOut 8 e w) := by
  obtain ⟨Bf, hBf⟩ : ∃ Bf, Bf = w.heap.size := ⟨_, rfl⟩
  obtain ⟨V0, hV0⟩ : ∃ V0, V0 = (w.alloc (.cells #[.int .i64 e.f.n, .int .i64 e.f.tm, .int .i64 e.f.kd, .int .i64 e.f.st, .string ⟨e.f.lg.toArray⟩, .int .i64 e.f.rv, .int .i64 e.f.bs, .string ⟨e.f.ti.toArray⟩, .string ⟨e.f.au.toArray⟩, .slice e.ta e.tn e.tc, .slice e.ba e.bn e.bc, .int .i64 e.f.lb.u, .slice e.la e.ln e.lc, .int .i64 e.f.lb.ap, .int .i64 e.f.lb.d, .int .i64 e.f.ed, .int .i64 e.f.bk, .int .i64 e.f.se, .string ⟨e.f.tx.toArray⟩, .string ⟨e.f.nm.toArray⟩, .int .i64 e.f.pt, .int .i64 e.f.cl, .int .i64 e.f.un] 28)).alloc (.cells #[.int .i64 0, .int .i64 0, .int .i64 0, .int .i64 0, .string ⟨#[]⟩, .int .i64 0, .int .i64 0, .string ⟨#[]⟩, .string ⟨#[]⟩, .slice none 0 0, .slice none 0 0, .int .i64 0, .slice none 0 0, .int .i64 0, .int .i64 0, .int .i64 0, .int .i64 0, .int .i64 0, .string ⟨#[]⟩, .string ⟨#[]⟩, .int .i64 0, .int .i64 0, .int .i64 0] 28) := ⟨_, rfl⟩
  have F0 : Hid (FcAt V0 Bf e) := Lib.hid (by rw [hV0, hBf]; exact (new_fact w e).over (below_alloc _ _))
  have R0 : Hid (FcAt V0 (Bf + 1) zE) := Lib.hid (by
    rw [hV0, hBf]
    have := heap_alloc_new (w.alloc (.cells #[.int .i64 e.f.n, .int .i64 e.f.tm, .int .i64 e.f.kd, .int .i64 e.f.st, .string ⟨e.f.lg.toArray⟩, .int .i64 e.f.rv, .int .i64 e.f.bs, .string ⟨e.f.ti.toArray⟩, .string ⟨e.f.au.toArray⟩, .slice e.ta e.tn e.tc, .slice e.ba e.bn e.bc, .int .i64 e.f.lb.u, .slice e.la e.ln e.lc, .int .i64 e.f.lb.ap, .int .i64 e.f.lb.d, .int .i64 e.f.ed, .int .i64 e.f.bk, .int .i64 e.f.se, .string ⟨e.f.tx.toArray⟩, .string ⟨e.f.nm.toArray⟩, .int .i64 e.f.pt, .int .i64 e.f.cl, .int .i64 e.f.un] 28)) (.cells #[.int .i64 0, .int .i64 0, .int .i64 0, .int .i64 0, .string ⟨#[]⟩, .int .i64 0, .int .i64 0, .string ⟨#[]⟩, .string ⟨#[]⟩, .slice none 0 0, .slice none 0 0, .int .i64 0, .slice none 0 0, .int .i64 0, .int .i64 0, .int .i64 0, .int .i64 0, .int .i64 0, .string ⟨#[]⟩, .string ⟨#[]⟩, .int .i64 0, .int .i64 0, .int .i64 0] 28)
    rw [show (w.alloc (.cells #[.int .i64 e.f.n, .int .i64 e.f.tm, .int .i64 e.f.kd, .int .i64 e.f.st, .string ⟨e.f.lg.toArray⟩, .int .i64 e.f.rv, .int .i64 e.f.bs, .string ⟨e.f.ti.toArray⟩, .string ⟨e.f.au.toArray⟩, .slice e.ta e.tn e.tc, .slice e.ba e.bn e.bc, .int .i64 e.f.lb.u, .slice e.la e.ln e.lc, .int .i64 e.f.lb.ap, .int .i64 e.f.lb.d, .int .i64 e.f.ed, .int .i64 e.f.bk, .int .i64 e.f.se, .string ⟨e.f.tx.toArray⟩, .string ⟨e.f.nm.toArray⟩, .int .i64 e.f.pt, .int .i64 e.f.cl, .int .i64 e.f.un] 28)).heap.size = w.heap.size + 1 by simp] at this
    exact this)
  have B0 : Hid (Below Bf w V0) := Lib.hid (by rw [hV0, hBf]; exact bel2 (below_alloc w _) (below_alloc _ _))
  have S0 : Hid (V0.heap.size = Bf + 2) := Lib.hid (by rw [hV0, hBf]; simp)
  have HV0 := Lib.hid hV0
  have hBs : w.heap.size = Bf := hBf.symm
  have HOK := Lib.hid h
  clear hV0 hBf h
  obtain ⟨d, hd⟩ : ∃ d : FE, d = { e with f := { e.f with bk := e.f.bk + 1 } } := ⟨_, rfl⟩
  have G2 : Hid (FcAt (V0.setCell ⟨Bf, 16, none⟩ (.int .i64 (e.f.bk + 1))) Bf d) := Lib.hid (by rw [hd]; exact F0.out.set 16 _ rfl)
  have R2 : Hid ((V0.setCell ⟨Bf, 16, none⟩ (.int .i64 (e.f.bk + 1))).there (Bf + 1) 0 23) := Lib.hid (R0.out.other (by omega)).there
  have HD := Lib.hid hd
  have co : V0.cell? ⟨Bf, 16, none⟩ = some (.int .i64 e.f.bk) := F0.out.cell 16
  have fo := Joins.unfrozen_of_block F0.out 16
  have K2 : Hid (Kp (RG Bf (Bf + 1)) V0 ((V0.setCell ⟨Bf, 16, none⟩ (.int .i64 (e.f.bk + 1))).setCells (Bf + 1) 0 (elF d))) := Lib.hid (Kp.setCells (.inr rfl) _ _ _ ((Kp.refl _ _).setCell (.inl rfl) _ _))
  clear hd R0 F0
  go_enter Tryz.func18, Tryz.ntmps18
  go_wp2_with fail
  rw [← HV0.out]
  refine (KP.out _).mono ?_
  rintro x w1 ⟨rfl, rfl⟩
  go_wp2_with (first | (refine wpList_load28 _ Bf d ?F rfl rfl rfl ?_; (case F => exact G2.out)) | (refine wpList_storeK (Bf + 1) d ?T _ _ rfl rfl rfl rfl ?_; (case T => exact R2.out)))
  have hbz : Below w.heap.size w ((V0.setCell ⟨Bf, 16, none⟩ (.int .i64 (e.f.bk + 1))).setCells (Bf + 1) 0 (elF d)) := by
    rw [hBs]
    exact B0.out.trans (K2.out.below (by have := S0.out; omega) (by rintro q (rfl | rfl) <;> omega))
  have hrr := World.rangeAt_setCells_same (V0.setCell ⟨Bf, 16, none⟩ (.int .i64 (e.f.bk + 1))) (Bf + 1) 0 (elF d) (by simpa [elF] using R2.out)
  refine ⟨rfl, aggF d, results_one (k := 4) (t1 := 28) (by kernel_rfl) (load_fact hrr) (by rfl), d, rfl, by rw [HD.out]; rfl, ?_, hbz⟩
  have ok := HOK.out.over hbz
  revert ok
  generalize (V0.setCell ⟨Bf, 16, none⟩ (.int .i64 (e.f.bk + 1))).setCells (Bf + 1) 0 (elF d) = Wz
  intro ok
  rw [HD.out]
  obtain ⟨o1, o2, o3, ⟨i1, i2, i3, i4, i5, i6, i7, i8, i9, i10, i11, i12⟩, ⟨s1, s2, s3, s4, s5⟩⟩ := ok
  exact ⟨o1, o2, o3, ⟨i1, i2, i3, i4, i5, i6, i7, ⟨by show _ ≤ e.f.bk + 1; omega, by show e.f.bk + 1 ≤ _; omega⟩, i9, i10, i11, i12⟩, ⟨s1, s2, s3, s4, s5⟩⟩
end Go.Proofs.YtlhcckjfgpcohaaGreatDoor
namespace Go.Proofs.YtlhcckjfgpcohaaGreatDoor
open Go.RowKit Go.MapKept
set_option maxRecDepth 100000
set_option linter.unusedSimpArgs false
set_option linter.unusedVariables false

/-- append of strings to a row of strings that was made here. -/
theorem app_str (w : World) (base : Nat) (v : Value) (n : Nat) (l : List (List UInt8)) (ho : w.ownsRow base 9 1 v n (l.map (fun s => Value.string ⟨s.toArray⟩))) (hb : base ≤ w.heap.size) (a : Option Addr) (m c : Nat) (k : List (List UInt8)) (h : IsTp w a m c k) (hn : n + m ≤ 1000000) :
    ∃ a' c' w', (Builtin.append_ #[22, 22] 22 #[v, .slice a m c]).run Tryz.prog w = .ok (.slice a' (n + m) c') w' ∧ w'.ownsRow base 9 1 (.slice a' (n + m) c') (n + m) ((l ++ k).map (fun s => Value.string ⟨s.toArray⟩)) ∧ w.grownBy w' v.ownBlock := by
  obtain ⟨i0, hi, hz0, hz1, hz2⟩ := info_parts strInfo
  obtain ⟨h1, h2, h3, h4, h5⟩ := h
  rcases a with _ | ad
  · have hm : m = 0 := by
      rcases h5 with h0 | ⟨b, off, e, _⟩
      · exact h0
      · cases e
    subst hm
    have hk : k = [] := List.eq_nil_of_length_eq_zero h1
    subst hk
    obtain ⟨a', c', rfl⟩ := own_slice ho
    rw [List.append_nil]
    exact ⟨a', c', w, append_none w _ _ _ i0 1 Tryz.underlying22 hi base _ n _ ho c, ho, .refl _ _⟩
  · obtain ⟨v', w', hr, h6, h7, -, -⟩ := run_append_own_at (P := Tryz.prog) w base 22 22 9 i0 (.string ⟨#[]⟩) 1 16 Tryz.underlying22 hi hz0 hz1 hz2 rfl (by decide) v n _ ho ad m c (k.map (fun s => Value.string ⟨s.toArray⟩)) (by rw [List.length_map, Nat.mul_one]; exact h1) (fun j u hj => by
      rw [List.getElem?_map, Option.map_eq_some_iff] at hj
      obtain ⟨z, hz, rfl⟩ := hj
      rcases h5 with h0 | ⟨b, off, e, hc⟩
      · rw [h0] at h1
        rw [List.eq_nil_of_length_eq_zero h1] at hz
        simp at hz
      · injection e with e
        subst e
        rw [add_at]
        exact hc j z hz) (fun u hu => by obtain ⟨z, _, rfl⟩ := List.mem_map.1 hu; rfl) (by unfold maxLen; omega) (by omega) hb
    rw [← List.map_append] at h6
    obtain ⟨a', c', rfl⟩ := own_slice h6
    exact ⟨a', c', w', hr, h6, h7⟩
theorem below_app {base : Nat} {V w w' : World} {v : Value} {n : Nat} {xs : List Value} (hB : Below base V w) (hb : base ≤ w.heap.size) (ho : w.ownsRow base 9 1 v n xs) (hg : w.grownBy w' v.ownBlock) : Below base V w' :=
  hB.grown hg hb (fun k hk => by
    rcases ho.2 with ⟨hv, _⟩ | ⟨g, cap, cur, hv, hg, _⟩
    · rw [hv] at hk; cases hk
    · rw [hv] at hk; cases hk; exact hg)
/-- The empty row, and the row of "z", made anew. -/
theorem own_empty (w : World) (base : Nat) (hb : base ≤ w.heap.size) : (w.alloc (.cells #[] 9)).ownsRow base 9 1 (.slice (some ⟨w.heap.size, 0, none⟩) 0 0) 0 ([] : List Value) :=
  ⟨rfl, .inr ⟨w.heap.size, 0, #[], rfl, hb, heap_alloc_new _ _, Nat.le_refl _, by unfold maxLen; omega, rfl, rfl⟩⟩
theorem tp_one (w : World) : IsTp (w.alloc (.cells #[.string ⟨#[122]⟩] 9)) (some ⟨w.heap.size, 0, none⟩) 1 1 [[122]] :=
  ⟨rfl, Nat.le_refl _, by unfold maxLen; omega, by simp [maxLen], .inr ⟨_, _, rfl, fun i s hs => by
    rcases i with _ | i
    · injection hs with hs
      subst hs
      exact cell_one_new _ _ _ 0 _ rfl
    · simp at hs⟩⟩
/-- The first append: to the empty row at block g. -/
theorem app1 (V w : World) (base g : Nat) (hB : Below base V w) (hb : base ≤ w.heap.size) (ho : w.ownsRow base 9 1 (.slice (some ⟨g, 0, none⟩) 0 0) 0 ([] : List Value)) (a : Option Addr) (m c : Nat) (k : List (List UInt8)) (h : IsTp w a m c k) (hn : m ≤ 1000) :
    ∃ a' c' w', (Builtin.append_ #[22, 22] 22 #[.slice (some ⟨g, 0, none⟩) 0 0, .slice a m c]).run Tryz.prog w = .ok (.slice a' m c') w' ∧ w'.ownsRow base 9 1 (.slice a' m c') m (k.map (fun s => Value.string ⟨s.toArray⟩)) ∧ Below base V w' ∧ base ≤ w'.heap.size ∧ w.grownBy w' (some g) := by
  obtain ⟨a1, c1, w1, hr1, o1, g1⟩ := app_str w base _ 0 [] ho hb a m c k h (by omega)
  rw [Nat.zero_add] at hr1 o1
  rw [List.nil_append] at o1
  exact ⟨a1, c1, w1, hr1, o1, below_app hB hb ho g1, Nat.le_trans hb g1.size, g1⟩
/-- The second append: of "z". -/
theorem app2 (V w : World) (base : Nat) (hB : Below base V w) (hb : base ≤ w.heap.size) (v : Value) (m : Nat) (k : List (List UInt8)) (ho : w.ownsRow base 9 1 v m (k.map (fun s => Value.string ⟨s.toArray⟩))) (a : Option Addr) (h : IsTp w a 1 1 [[122]]) (hn : m ≤ 1000) (hk : ∀ z ∈ k, z.length ≤ maxLen) :
    ∃ a' c' w', (Builtin.append_ #[22, 22] 22 #[v, .slice a 1 1]).run Tryz.prog w = .ok (.slice a' (m + 1) c') w' ∧ w'.ownsRow base 9 1 (.slice a' (m + 1) c') (m + 1) ((k ++ [[122]]).map (fun s : List UInt8 => Value.string ⟨s.toArray⟩)) ∧ Below base V w' ∧ base ≤ w'.heap.size := by
  obtain ⟨a1, c1, w1, hr1, o1, g1⟩ := app_str w base _ m k ho hb a 1 1 [[122]] h (by omega)
  exact ⟨a1, c1, w1, hr1, o1, below_app hB hb ho g1, Nat.le_trans hb g1.size⟩
set_option maxHeartbeats 16000000 in
theorem spoil_7 (e : FE) (c : Int) (KP : Hid (∀ w, Calls Tryz.prog 16 #[.int .i64 c, .int .i64 9] w fun x w' => x = .returned (.int .i64 7) ∧ w = w')) (w : World) (h : FeOk w e) (z1 : e.f.tp.length ≤ 1000) :
    Calls Tryz.prog 18 #[.agg #[.int .i64 e.f.n, .int .i64 e.f.tm, .int .i64 e.f.kd, .int .i64 e.f.st, .string ⟨e.f.lg.toArray⟩, .int .i64 e.f.rv, .int .i64 e.f.bs, .string ⟨e.f.ti.toArray⟩, .string ⟨e.f.au.toArray⟩, .slice e.ta e.tn e.tc, .slice e.ba e.bn e.bc, .int .i64 e.f.lb.u, .slice e.la e.ln e.lc, .int .i64 e.f.lb.ap, .int .i64 e.f.lb.d, .int .i64 e.f.ed, .int .i64 e.f.bk, .int .i64 e.f.se, .string ⟨e.f.tx.toArray⟩, .string ⟨e.f.nm.toArray⟩, .int .i64 e.f.pt, .int .i64 e.f.cl, .int .i64 e.f.un], .int .i64 c] w (SpOut 7 e w) := by
  obtain ⟨Bf, hBf⟩ : ∃ Bf, Bf = w.heap.size := ⟨_, rfl⟩
  obtain ⟨V0, hV0⟩ : ∃ V0, V0 = (w.alloc (.cells #[.int .i64 e.f.n, .int .i64 e.f.tm, .int .i64 e.f.kd, .int .i64 e.f.st, .string ⟨e.f.lg.toArray⟩, .int .i64 e.f.rv, .int .i64 e.f.bs, .string ⟨e.f.ti.toArray⟩, .string ⟨e.f.au.toArray⟩, .slice e.ta e.tn e.tc, .slice e.ba e.bn e.bc, .int .i64 e.f.lb.u, .slice e.la e.ln e.lc, .int .i64 e.f.lb.ap, .int .i64 e.f.lb.d, .int .i64 e.f.ed, .int .i64 e.f.bk, .int .i64 e.f.se, .string ⟨e.f.tx.toArray⟩, .string ⟨e.f.nm.toArray⟩, .int .i64 e.f.pt, .int .i64 e.f.cl, .int .i64 e.f.un] 28)).alloc (.cells #[.int .i64 0, .int .i64 0, .int .i64 0, .int .i64 0, .string ⟨#[]⟩, .int .i64 0, .int .i64 0, .string ⟨#[]⟩, .string ⟨#[]⟩, .slice none 0 0, .slice none 0 0, .int .i64 0, .slice none 0 0, .int .i64 0, .int .i64 0, .int .i64 0, .int .i64 0, .int .i64 0, .string ⟨#[]⟩, .string ⟨#[]⟩, .int .i64 0, .int .i64 0, .int .i64 0] 28) := ⟨_, rfl⟩
  have F0 : FcAt V0 Bf e := by rw [hV0, hBf]; exact (new_fact w e).over (below_alloc _ _)
  have R0 : FcAt V0 (Bf + 1) zE := by
    rw [hV0, hBf]
    have := heap_alloc_new (w.alloc (.cells #[.int .i64 e.f.n, .int .i64 e.f.tm, .int .i64 e.f.kd, .int .i64 e.f.st, .string ⟨e.f.lg.toArray⟩, .int .i64 e.f.rv, .int .i64 e.f.bs, .string ⟨e.f.ti.toArray⟩, .string ⟨e.f.au.toArray⟩, .slice e.ta e.tn e.tc, .slice e.ba e.bn e.bc, .int .i64 e.f.lb.u, .slice e.la e.ln e.lc, .int .i64 e.f.lb.ap, .int .i64 e.f.lb.d, .int .i64 e.f.ed, .int .i64 e.f.bk, .int .i64 e.f.se, .string ⟨e.f.tx.toArray⟩, .string ⟨e.f.nm.toArray⟩, .int .i64 e.f.pt, .int .i64 e.f.cl, .int .i64 e.f.un] 28)) (.cells #[.int .i64 0, .int .i64 0, .int .i64 0, .int .i64 0, .string ⟨#[]⟩, .int .i64 0, .int .i64 0, .string ⟨#[]⟩, .string ⟨#[]⟩, .slice none 0 0, .slice none 0 0, .int .i64 0, .slice none 0 0, .int .i64 0, .int .i64 0, .int .i64 0, .int .i64 0, .int .i64 0, .string ⟨#[]⟩, .string ⟨#[]⟩, .int .i64 0, .int .i64 0, .int .i64 0] 28)
    rw [show (w.alloc (.cells #[.int .i64 e.f.n, .int .i64 e.f.tm, .int .i64 e.f.kd, .int .i64 e.f.st, .string ⟨e.f.lg.toArray⟩, .int .i64 e.f.rv, .int .i64 e.f.bs, .string ⟨e.f.ti.toArray⟩, .string ⟨e.f.au.toArray⟩, .slice e.ta e.tn e.tc, .slice e.ba e.bn e.bc, .int .i64 e.f.lb.u, .slice e.la e.ln e.lc, .int .i64 e.f.lb.ap, .int .i64 e.f.lb.d, .int .i64 e.f.ed, .int .i64 e.f.bk, .int .i64 e.f.se, .string ⟨e.f.tx.toArray⟩, .string ⟨e.f.nm.toArray⟩, .int .i64 e.f.pt, .int .i64 e.f.cl, .int .i64 e.f.un] 28)).heap.size = w.heap.size + 1 by simp] at this
    exact this
  have S0 : Hid (V0.heap.size = Bf + 2) := Lib.hid (by rw [hV0, hBf]; simp)
  have B0 : Below Bf w V0 := by rw [hV0, hBf]; exact bel2 (below_alloc w _) (below_alloc _ _)
  have HV0 := Lib.hid hV0
  have HBs : Hid (w.heap.size = Bf) := Lib.hid hBf.symm
  have HOK := Lib.hid h
  have HB0 := Lib.hid B0
  have TP : IsTp V0 e.ta e.tn e.tc e.f.tp := h.tp.over (by rw [← hBf]; exact B0)
  have HTN : Hid (e.tn ≤ 1000) := Lib.hid (by have := TP.1; omega)
  have HZ : Hid (∀ z ∈ e.f.tp, z.length ≤ maxLen) := Lib.hid TP.2.2.2.1
  have HTP := Lib.hid TP
  have co0 : V0.cell? ⟨Bf, 9, none⟩ = some (.slice e.ta e.tn e.tc) := F0.cell 9
  have HF0 := Lib.hid F0
  have HR0 := Lib.hid R0
  clear hV0 hBf h F0 R0 B0 TP z1
  have BA := Lib.hid (below_alloc V0 (.cells #[] 9))
  obtain ⟨a1, c1, w1, hr1, o1, b1, s1, -⟩ := app1 V0 (V0.alloc (.cells #[] 9)) V0.heap.size V0.heap.size BA.out (by simp) (own_empty V0 V0.heap.size (Nat.le_refl _)) e.ta e.tn e.tc e.f.tp (HTP.out.over BA.out) HTN.out
  obtain ⟨a2, c2, w2, hr2, tp2, b2, s2⟩ := app2 V0 (w1.alloc (.cells #[.string ⟨#[122]⟩] 9)) V0.heap.size (b1.alloc s1 _) (by simp; omega) _ e.tn e.f.tp (o1.alloc _) _ (tp_one w1) HTN.out HZ.out
  have HR1 := Lib.hid hr1
  have HR2 := Lib.hid hr2
  have T2 := Lib.hid tp2
  obtain ⟨d, hd⟩ : ∃ d : FE, d = { e with f := { e.f with tp := e.f.tp ++ [[122]] }, ta := a2, tn := e.tn + 1, tc := c2 } := ⟨_, rfl⟩
  have F2 : FcAt w2 Bf e := HF0.out.over b2
  have R1 : FcAt w2 (Bf + 1) zE := HR0.out.over b2
  have G2 : Hid (FcAt (w2.setCell ⟨Bf, 9, none⟩ (.slice a2 (e.tn + 1) c2)) Bf d) := Lib.hid (by rw [hd]; exact F2.set 9 _ rfl)
  have R2 : Hid ((w2.setCell ⟨Bf, 9, none⟩ (.slice a2 (e.tn + 1) c2)).there (Bf + 1) 0 23) := Lib.hid (R1.other (by omega)).there
  have HD := Lib.hid hd
  have co2 : w2.cell? ⟨Bf, 9, none⟩ = some (.slice e.ta e.tn e.tc) := F2.cell 9
  have fo := Joins.unfrozen_of_block F2 9
  have co1 : (V0.alloc (.cells #[] 9)).cell? ⟨Bf, 9, none⟩ = some (.slice e.ta e.tn e.tc) := cellOver BA.out co0
  have K2 : Hid (Kp (RG Bf (Bf + 1)) w2 ((w2.setCell ⟨Bf, 9, none⟩ (.slice a2 (e.tn + 1) c2)).setCells (Bf + 1) 0 (elF d))) := Lib.hid (Kp.setCells (.inr rfl) _ _ _ ((Kp.refl _ _).setCell (.inl rfl) _ _))
  have B2 : Hid (Below Bf w w2) := Lib.hid (HB0.out.trans (b2.mono (by have := S0.out; omega)))
  have hBs : w.heap.size = Bf := HBs.out
  clear hd F2 R1 hr1 hr2 tp2 b1 b2 s1 s2 o1
  go_enter Tryz.func18, Tryz.ntmps18
  go_wp2_with fail
  rw [← HV0.out]
  refine (KP.out _).mono ?_
  rintro x w9 ⟨rfl, rfl⟩
  go_wp2_with (first | (at_builtin; refine Lib.wpList_append_run _ rfl _ _ 22 22 rfl _ _ rfl rfl _ _ HR1.out ?_) | (at_builtin; refine Lib.wpList_append_run _ rfl _ _ 22 22 rfl _ _ rfl rfl _ _ HR2.out ?_) | (refine wpList_load28 _ Bf d ?F rfl rfl rfl ?_; (case F => exact G2.out)) | (refine wpList_storeK (Bf + 1) d ?T _ _ rfl rfl rfl rfl ?_; (case T => exact R2.out)))
  have hbz : Below w.heap.size w ((w2.setCell ⟨Bf, 9, none⟩ (.slice a2 (e.tn + 1) c2)).setCells (Bf + 1) 0 (elF d)) := by
    rw [hBs]
    exact B2.out.trans (K2.out.below (B := Bf) (by have := B2.out.size; rw [hBs] at this; omega) (by rintro j (rfl | rfl) <;> omega))
  have hrr := World.rangeAt_setCells_same (w2.setCell ⟨Bf, 9, none⟩ (.slice a2 (e.tn + 1) c2)) (Bf + 1) 0 (elF d) (by simpa [elF] using R2.out)
  refine ⟨rfl, aggF d, results_one (k := 4) (t1 := 28) (by kernel_rfl) (load_fact hrr) (by rfl), d, rfl, by rw [HD.out]; rfl, ?_, hbz⟩
  have ok := HOK.out.over hbz
  have tp : IsTp ((w2.setCell ⟨Bf, 9, none⟩ (.slice a2 (e.tn + 1) c2)).setCells (Bf + 1) 0 (elF d)) a2 (e.tn + 1) c2 (e.f.tp ++ [[122]]) := tp_of_own6 (K2.out.own (base := V0.heap.size) (by have := S0.out; rintro j (rfl | rfl) <;> omega) T2.out) (fun z hz => by
    rcases List.mem_append.1 hz with hz | hz
    · exact HZ.out z hz
    · simp at hz; subst hz; simp [maxLen])
  revert ok tp
  generalize (w2.setCell ⟨Bf, 9, none⟩ (.slice a2 (e.tn + 1) c2)).setCells (Bf + 1) 0 (elF d) = Wz
  intro ok tp
  rw [HD.out]
  obtain ⟨o1, o2, o3, i, s⟩ := ok
  exact ⟨tp, o2, o3, i, s⟩
end Go.Proofs.YtlhcckjfgpcohaaGreatDoor
namespace Go.Proofs.YtlhcckjfgpcohaaGreatDoor
open Go.RowKit Go.MapKept
set_option maxRecDepth 100000
set_option linter.unusedSimpArgs false
set_option linter.unusedVariables false
theorem spoil5 (e : FE) (c : Int) (q : Nat) (hq : q < 9) (KP : Hid (∀ w, Calls Tryz.prog 16 #[.int .i64 c, .int .i64 9] w fun x w' => x = .returned (.int .i64 q) ∧ w = w')) (w : World) (h : FeOk w e) (hz : spoilZ q e.f) :
    Calls Tryz.prog 18 #[.agg #[.int .i64 e.f.n, .int .i64 e.f.tm, .int .i64 e.f.kd, .int .i64 e.f.st, .string ⟨e.f.lg.toArray⟩, .int .i64 e.f.rv, .int .i64 e.f.bs, .string ⟨e.f.ti.toArray⟩, .string ⟨e.f.au.toArray⟩, .slice e.ta e.tn e.tc, .slice e.ba e.bn e.bc, .int .i64 e.f.lb.u, .slice e.la e.ln e.lc, .int .i64 e.f.lb.ap, .int .i64 e.f.lb.d, .int .i64 e.f.ed, .int .i64 e.f.bk, .int .i64 e.f.se, .string ⟨e.f.tx.toArray⟩, .string ⟨e.f.nm.toArray⟩, .int .i64 e.f.pt, .int .i64 e.f.cl, .int .i64 e.f.un], .int .i64 c] w (SpOut q e w) := by
  have hq2 : q = 0 ∨ q = 1 ∨ q = 2 ∨ q = 3 ∨ q = 4 ∨ q = 5 ∨ q = 6 ∨ q = 7 ∨ q = 8 := by omega
  rcases hq2 with rfl | rfl | rfl | rfl | rfl | rfl | rfl | rfl | rfl
  · have z : e.f.ed = 0 := hz
    exact spoil_0 e c KP w h (by rw [z]; decide) (by rw [z]; decide)
  · have z : e.f.nm = [] := hz
    exact spoil_1 e c KP w h (by rw [z]; decide)
  · have z : e.f.pt = 0 := hz
    exact spoil_2 e c KP w h (by rw [z]; decide) (by rw [z]; decide)
  · have z : e.f.cl = 0 := hz
    exact spoil_3 e c KP w h (by rw [z]; decide) (by rw [z]; decide)
  · have z : e.f.lg = [] := hz
    exact spoil_4 e c KP w h (by rw [z]; decide)
  · have z : e.f.rv = 0 := hz
    exact spoil_5 e c KP w h (by rw [z]; decide) (by rw [z]; decide)
  · have z : e.f.lb.ap = 0 := hz
    exact spoil_6 e c KP w h (by rw [z]; decide) (by rw [z]; decide)
  · have z : e.f.tp = [] := hz
    exact spoil_7 e c KP w h (by rw [z]; decide)
  · have z : e.f.bk = 0 := hz
    exact spoil_8 e c KP w h (by rw [z]; decide) (by rw [z]; decide)
theorem kind_of {f : Fct} (h : vF f = true) : 1 ≤ f.kd ∧ f.kd ≤ 10 := by
  obtain ⟨l, ho, -, -⟩ := vF_some h
  rcases own_cases ho with ⟨hk, _⟩ | ⟨hk, _⟩ | ⟨hk, _⟩ | ⟨hk, _⟩ | ⟨hk, _⟩ | ⟨hk, _⟩ | ⟨hk, _⟩ | ⟨hk, _⟩ | ⟨hk, _⟩ | ⟨hk, _⟩ <;> omega
set_option maxHeartbeats 32000000 in
theorem fields5 (e : FE) (k : Int) (w : World) (h : FeOk w e) (hk : (Lit.int .i64 k).wf = true) : Calls Tryz.prog 7 #[aggF e, .int .i64 k] w fun r w' => r = .returned (.bool true) ∧ Below w.heap.size w w' := by
  obtain ⟨q, hq, KP⟩ := pick5 k 9 (wf64 hk) (by decide) (by decide)
  have KP' : Hid (∀ w, Calls Tryz.prog 16 #[.int .i64 k, .int .i64 9] w fun x w' => x = .returned (.int .i64 q) ∧ w = w') := Lib.hid (fun w => KP w)
  obtain ⟨V0, hV0⟩ : ∃ V0, V0 = w.alloc (.cells #[.int .i64 e.f.n, .int .i64 e.f.tm, .int .i64 e.f.kd, .int .i64 e.f.st, .string ⟨e.f.lg.toArray⟩, .int .i64 e.f.rv, .int .i64 e.f.bs, .string ⟨e.f.ti.toArray⟩, .string ⟨e.f.au.toArray⟩, .slice e.ta e.tn e.tc, .slice e.ba e.bn e.bc, .int .i64 e.f.lb.u, .slice e.la e.ln e.lc, .int .i64 e.f.lb.ap, .int .i64 e.f.lb.d, .int .i64 e.f.ed, .int .i64 e.f.bk, .int .i64 e.f.se, .string ⟨e.f.tx.toArray⟩, .string ⟨e.f.nm.toArray⟩, .int .i64 e.f.pt, .int .i64 e.f.cl, .int .i64 e.f.un] 28) := ⟨_, rfl⟩
  have F0 : Hid (FcAt V0 w.heap.size e) := Lib.hid (by rw [hV0]; exact new_fact w e)
  have O0 : Hid (FeOk V0 e) := Lib.hid (by rw [hV0]; exact h.over (below_alloc w _))
  have B0 : Hid (Below w.heap.size w V0) := Lib.hid (by rw [hV0]; exact below_alloc w _)
  have HV0 := Lib.hid hV0
  have HQ := Lib.hid hq
  clear hV0 h KP hk hq
  show Calls _ _ #[.agg #[.int .i64 e.f.n, .int .i64 e.f.tm, .int .i64 e.f.kd, .int .i64 e.f.st, .string ⟨e.f.lg.toArray⟩, .int .i64 e.f.rv, .int .i64 e.f.bs, .string ⟨e.f.ti.toArray⟩, .string ⟨e.f.au.toArray⟩, .slice e.ta e.tn e.tc, .slice e.ba e.bn e.bc, .int .i64 e.f.lb.u, .slice e.la e.ln e.lc, .int .i64 e.f.lb.ap, .int .i64 e.f.lb.d, .int .i64 e.f.ed, .int .i64 e.f.bk, .int .i64 e.f.se, .string ⟨e.f.tx.toArray⟩, .string ⟨e.f.nm.toArray⟩, .int .i64 e.f.pt, .int .i64 e.f.cl, .int .i64 e.f.un], _] w _
  go_enter Tryz.func7, Tryz.ntmps7
  go_wp2_with fail
  rw [← HV0.out]
  refine (sane5 V0).mono ?_
  rintro r w1 ⟨rfl, b1⟩
  replace F0 := Lib.hid (F0.out.over b1)
  replace O0 := Lib.hid (O0.out.over b1)
  have B1 := Lib.hid (bel2 B0.out b1)
  clear b1 B0 HV0
  go_wp2_with (refine wpList_load28 _ w.heap.size e ?F rfl rfl rfl ?_; (case F => exact F0.out))
  refine (kF e w1 O0.out).mono ?_
  rintro r w2 ⟨e1, rfl, -, ok1, b2⟩
  obtain ⟨g2, hg2⟩ : ∃ g2, g2 = w2.heap.size := ⟨_, rfl⟩
  obtain ⟨V2, hV2⟩ : ∃ V2, V2 = w2.alloc (.cells #[.int .i64 e1.f.n, .int .i64 e1.f.tm, .int .i64 e1.f.kd, .int .i64 e1.f.st, .string ⟨e1.f.lg.toArray⟩, .int .i64 e1.f.rv, .int .i64 e1.f.bs, .string ⟨e1.f.ti.toArray⟩, .string ⟨e1.f.au.toArray⟩, .slice e1.ta e1.tn e1.tc, .slice e1.ba e1.bn e1.bc, .int .i64 e1.f.lb.u, .slice e1.la e1.ln e1.lc, .int .i64 e1.f.lb.ap, .int .i64 e1.f.lb.d, .int .i64 e1.f.ed, .int .i64 e1.f.bk, .int .i64 e1.f.se, .string ⟨e1.f.tx.toArray⟩, .string ⟨e1.f.nm.toArray⟩, .int .i64 e1.f.pt, .int .i64 e1.f.cl, .int .i64 e1.f.un] 28) := ⟨_, rfl⟩
  have F2 : Hid (FcAt V2 w2.heap.size e1) := Lib.hid (by rw [hV2]; exact new_fact w2 e1)
  have O2 : Hid (FeOk V2 e1) := Lib.hid (by rw [hV2]; exact ok1.over (below_alloc w2 _))
  have B2 : Hid (Below w.heap.size w V2) := Lib.hid (by rw [hV2]; exact bel2 (bel2 B1.out b2) (below_alloc w2 _))
  have HV2 := Lib.hid hV2
  clear hV2 ok1 b2 B1 F0 O0 hg2 g2
  go_wp2_with (first | (refine wpList_store28 _ _ zE e1 rfl rfl rfl rfl ?_; rw [← HV2.out]) | (refine wpList_load28 _ w2.heap.size e1 ?F rfl rfl rfl ?_; (case F => exact F2.out)))
  cases hv : vF e1.f
  · have HV := Lib.hid hv
    clear hv
    refine (kVt e1 V2 O2.out false HV.out).mono ?_
    rintro r w3 ⟨rfl, b3⟩
    have B3 := Lib.hid (bel2 B2.out b3)
    clear b3 B2 HV2 F2 O2
    go_wp2_with fail
    go_ret
    exact ⟨rfl, B3.out⟩
  · have HV := Lib.hid hv
    have HKD := Lib.hid (kind_of hv)
    clear hv
    refine (kVt e1 V2 O2.out true HV.out).mono ?_
    rintro r w3 ⟨rfl, b3⟩
    replace F2 := Lib.hid (F2.out.over b3)
    replace O2 := Lib.hid (O2.out.over b3)
    have B3 := Lib.hid (bel2 B2.out b3)
    clear b3 B2 HV2
    obtain ⟨b, hb⟩ : ∃ b, usesB e1.f.kd q = b := ⟨_, rfl⟩
    have KU : Hid (Calls Tryz.prog 17 #[.int .i64 e1.f.kd, .int .i64 k] w3 fun r w' => r = .returned (.bool b) ∧ Below w3.heap.size w3 w') := Lib.hid (by
      have := uses5 e1.f.kd k q HKD.out HQ.out KP' w3
      rwa [hb] at this)
    have HB := Lib.hid hb
    clear hb
    have ck : w3.cell? ⟨w2.heap.size, 2, none⟩ = some (.int .i64 e1.f.kd) := F2.out.cell 2
    go_wp2_with fail
    refine KU.out.mono ?_
    rintro r w4 ⟨rfl, b4⟩
    replace F2 := Lib.hid (F2.out.over b4)
    replace O2 := Lib.hid (O2.out.over b4)
    have B4 := Lib.hid (bel2 B3.out b4)
    clear b4 B3 KU ck
    cases b
    · obtain ⟨n1, n2, n3⟩ := spoil_bad HV.out (i := (q : Int)) (by have := HQ.out; omega) HB.out
      have N1 := Lib.hid n1
      have N2 := Lib.hid n2
      have KS := Lib.hid (spoil5 e1 k q HQ.out KP' w4 O2.out n3)
      clear n1 n2 n3
      go_wp2_with (refine wpList_load28 _ w2.heap.size e1 ?F rfl rfl rfl ?_; (case F => exact F2.out))
      refine KS.out.mono ?_
      rintro r w5 ⟨d, rfl, hdf, okd, b5⟩
      obtain ⟨V5, hV5⟩ : ∃ V5, V5 = w5.alloc (.cells #[.int .i64 d.f.n, .int .i64 d.f.tm, .int .i64 d.f.kd, .int .i64 d.f.st, .string ⟨d.f.lg.toArray⟩, .int .i64 d.f.rv, .int .i64 d.f.bs, .string ⟨d.f.ti.toArray⟩, .string ⟨d.f.au.toArray⟩, .slice d.ta d.tn d.tc, .slice d.ba d.bn d.bc, .int .i64 d.f.lb.u, .slice d.la d.ln d.lc, .int .i64 d.f.lb.ap, .int .i64 d.f.lb.d, .int .i64 d.f.ed, .int .i64 d.f.bk, .int .i64 d.f.se, .string ⟨d.f.tx.toArray⟩, .string ⟨d.f.nm.toArray⟩, .int .i64 d.f.pt, .int .i64 d.f.cl, .int .i64 d.f.un] 28) := ⟨_, rfl⟩
      have b5' : Below w4.heap.size w4 V5 := by rw [hV5]; exact bel2 b5 (below_alloc w5 _)
      have F5 : Hid (FcAt V5 w5.heap.size d) := Lib.hid (by rw [hV5]; exact new_fact w5 d)
      have O5 : Hid (FeOk V5 d) := Lib.hid (by rw [hV5]; exact okd.over (below_alloc w5 _))
      replace F2 := Lib.hid (F2.out.over b5')
      replace O2 := Lib.hid (O2.out.over b5')
      have B5 := Lib.hid (bel2 B4.out b5')
      rw [← hdf] at N1 N2
      have HV5 := Lib.hid hV5
      clear hV5 b5 b5' okd hdf B4 KS
      go_wp2_with (first | (refine wpList_store28 _ _ zE d rfl rfl rfl rfl ?_; rw [← HV5.out]) | (refine wpList_load28 _ w5.heap.size d ?F rfl rfl rfl ?_; (case F => exact F5.out)))
      refine (kEn0 d V5 O5.out N1.out).mono ?_
      rintro r w6 ⟨rfl, b6⟩
      replace F2 := Lib.hid (F2.out.over b6)
      replace O2 := Lib.hid (O2.out.over b6)
      replace F5 := Lib.hid (F5.out.over b6)
      replace O5 := Lib.hid (O5.out.over b6)
      replace B5 := Lib.hid (bel2 B5.out b6)
      clear b6 HV5
      go_wp2_with (refine wpList_load28g _ w5.heap.size d ?F (by kernel_rfl) rfl rfl ?_; (case F => exact F5.out))
      refine (kVt d _ O5.out false N1.out).mono ?_
      rintro r w7 ⟨rfl, b7⟩
      replace F2 := Lib.hid (F2.out.over b7)
      replace O2 := Lib.hid (O2.out.over b7)
      replace F5 := Lib.hid (F5.out.over b7)
      replace O5 := Lib.hid (O5.out.over b7)
      replace B5 := Lib.hid (bel2 B5.out b7)
      clear b7
      have tokA : True := trivial
      go_wp2_with (first | (have _t := tokA; refine wpList_load28g _ w2.heap.size e1 ?F (by kernel_rfl) rfl rfl ?_; (case F => exact F2.out); clear _t tokA) | (refine wpList_load28g _ w5.heap.size d ?F (by kernel_rfl) rfl rfl ?_; (case F => exact F5.out)))
      refine (kSt e1 d _ O2.out O5.out false N2.out).mono ?_
      rintro r w8 ⟨rfl, b8⟩
      replace B5 := Lib.hid (bel2 B5.out b8)
      clear b8 F2 O2 F5 O5
      go_wp2_with fail
      go_ret
      exact ⟨rfl, B5.out⟩
    · clear F2 O2
      go_wp2_with fail
      go_ret
      exact ⟨rfl, B4.out⟩
end Go.Proofs.YtlhcckjfgpcohaaGreatDoor
