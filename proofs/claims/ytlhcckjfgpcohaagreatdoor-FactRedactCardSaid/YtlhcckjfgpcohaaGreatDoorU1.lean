/- Package fact: Same. Package fact: Valid. -/
import Derived.Test.YtlhcckjfgpcohaaGreatDoorFctK1
import Derived.Test.YtlhcckjfgpcohaaGreatDoorFctK2
import Derived.Test.YtlhcckjfgpcohaaGreatDoorFctK3
import Derived.Test.YtlhcckjfgpcohaaGreatDoorFctK4
import Derived.Test.YtlhcckjfgpcohaaGreatDoorFctK5
import Derived.Test.YtlhcckjfgpcohaaGreatDoorFctK6
import Derived.Test.YtlhcckjfgpcohaaGreatDoorFctK7
import Derived.Test.YtlhcckjfgpcohaaGreatDoorFactQ
import Derived.Deep.WholeRow
namespace Go.Proofs.YtlhcckjfgpcohaaGreatDoor
open Go.RowKit
set_option maxRecDepth 100000
set_option linter.unusedSimpArgs false
set_option linter.unusedVariables false
def aggF (e : FE) : Value := .agg (elF e).toArray
theorem mk_inj {s t : List UInt8} (h : (⟨s.toArray⟩ : ByteArray) = ⟨t.toArray⟩) : s = t := by
  injection h with h
  simpa using congrArg Array.toList h
theorem map_mk_inj : ∀ {l m : List (List UInt8)}, l.map (fun s => (⟨s.toArray⟩ : ByteArray)) = m.map (fun s => (⟨s.toArray⟩ : ByteArray)) → l = m
  | [], [], _ => rfl
  | [], _ :: _, h => by simp at h
  | _ :: _, [], h => by simp at h
  | a :: l, b :: m, h => by
    simp only [List.map_cons, List.cons.injEq] at h
    rw [mk_inj h.1, map_mk_inj h.2]
theorem tp_cells {w : World} {b off : Nat} {l : List (List UInt8)} (hc : ∀ i s, l[i]? = some s → w.cell? ⟨b, off + i, none⟩ = some (.string ⟨s.toArray⟩)) :
    ∀ j, j < (l.map (fun s => (⟨s.toArray⟩ : ByteArray))).length → w.cell? ⟨b, off + j, none⟩ = some (.string ((l.map (fun s => (⟨s.toArray⟩ : ByteArray))).getD j ByteArray.empty)) := by
  intro j hj
  rw [List.length_map] at hj
  rw [hc j l[j] (List.getElem?_eq_getElem hj)]
  simp [List.getD, hj]
theorem eqtp5 (a : Option Addr) (n c : Nat) (l : List (List UInt8)) (a2 : Option Addr) (n2 c2 : Nat) (m : List (List UInt8)) (w : World) (h : IsTp w a n c l) (h2 : IsTp w a2 n2 c2 m) :
    Calls Tryz.prog 27 #[.slice a n c, .slice a2 n2 c2] w fun r w' => r = .returned (.bool (decide (l = m))) ∧ Below w.heap.size w w' := by
  obtain ⟨h1, hn, hc, hs, ha⟩ := h
  obtain ⟨k1, kn, kc, ks, ka⟩ := h2
  unfold maxLen at hc kc
  by_cases e : n = n2
  · subst e
    rcases ha with h0 | ⟨b, off, rfl, hcell⟩
    · subst h0
      refine (Tryz.slices_Equal_string_empty a a2 c 0 c2 w (by omega)).mono ?_
      rintro r w' ⟨rfl, rfl⟩
      have e1 : l = [] := List.eq_nil_of_length_eq_zero h1
      have e2 : m = [] := List.eq_nil_of_length_eq_zero k1
      subst e1 e2
      exact ⟨by simp, Below.refl _ _⟩
    · rcases ka with h0 | ⟨b2, off2, rfl, kcell⟩
      · subst h0
        refine (Tryz.slices_Equal_string_empty _ a2 c 0 c2 w (by omega)).mono ?_
        rintro r w' ⟨rfl, rfl⟩
        have e1 : l = [] := List.eq_nil_of_length_eq_zero h1
        have e2 : m = [] := List.eq_nil_of_length_eq_zero k1
        subst e1 e2
        exact ⟨by simp, Below.refl _ _⟩
      · refine (Tryz.slices_Equal_string b off n c b2 off2 n c2 (l.map fun s => (⟨s.toArray⟩ : ByteArray)) (m.map fun s => (⟨s.toArray⟩ : ByteArray)) w (by rw [List.length_map]; omega) (by rw [List.length_map]; omega) (by omega) (by omega) (tp_cells hcell) (tp_cells kcell)).mono ?_
        rintro r w' ⟨rfl, q, rfl⟩
        refine ⟨?_, below_drewN (Below.refl _ _) _⟩
        rw [List.take_of_length_le (by rw [List.length_map]; omega), List.take_of_length_le (by rw [List.length_map]; omega)]
        congr 2
        rw [decide_eq_decide]
        exact ⟨map_mk_inj, fun h => by rw [h]⟩
  · refine (Tryz.slices_Equal_string_lens a a2 n c n2 c2 w e).mono ?_
    rintro r w' ⟨rfl, rfl⟩
    have : l ≠ m := fun h => e (by rw [← h1, ← k1, h])
    exact ⟨by simp [this], Below.refl _ _⟩
theorem samebl5 (a : Option Addr) (n c : Nat) (l : List Blk) (a2 : Option Addr) (n2 c2 : Nat) (m : List Blk) (w : World) (h : IsBl w a n c l) (h2 : IsBl w a2 n2 c2 m) :
    Calls Tryz.prog 28 #[.slice a n c, .slice a2 n2 c2] w fun r w' => r = .returned (.bool (sL l m)) ∧ Below w.heap.size w w' := by
  obtain ⟨es, rfl, he⟩ := h
  obtain ⟨fs, rfl, hf⟩ := h2
  exact samel_any a n c es a2 n2 c2 fs w he hf
theorem toList_mk (s : List UInt8) : (⟨s.toArray⟩ : ByteArray).toList = s := by rw [ByteArray.toList_eq]
theorem same5 (e d : FE) (w : World) (h : FeOk w e) (k : FeOk w d) : Calls Tryz.prog 15 #[aggF e, aggF d] w fun r w' => r = .returned (.bool (sF e.f d.f)) ∧ Below w.heap.size w w' := by
  have KT := fun W (hW : Below w.heap.size w W) => eqtp5 _ _ _ _ _ _ _ _ W (h.tp.over hW) (k.tp.over hW)
  have KB := fun W (hW : Below w.heap.size w W) => samebl5 _ _ _ _ _ _ _ _ W (h.bl.over hW) (k.bl.over hW)
  have KL := fun W (hW : Below w.heap.size w W) => same_any e.f.lb d.f.lb _ _ _ _ _ _ W (h.lb.over hW) (k.lb.over hW)
  by_cases z0 : ¬ (e.f.n = d.f.n)
  · have h0 := z0
    have hz : sF e.f d.f = false := Bool.eq_false_iff.2 (fun z => h0 (congrArg Fct.n ((sF_iff _ _).1 z)))
    rw [hz]
    exact same_n _ _ _ _ _ _ _ _ _ _ _ _ _ _ _ _ _ _ _ _ _ _ _ _ _ _ _ _ _ _ _ _ _ _ _ _ _ _ _ _ _ _ _ _ _ _ _ _ _ _ _ _ _ _ _ _ _ _ w (by simp [h0])
  have h0 := Classical.not_not.1 z0
  clear z0
  by_cases z1 : ¬ (e.f.tm = d.f.tm)
  · have h1 := z1
    have hz : sF e.f d.f = false := Bool.eq_false_iff.2 (fun z => h1 (congrArg Fct.tm ((sF_iff _ _).1 z)))
    rw [hz]
    exact same_tm _ _ _ _ _ _ _ _ _ _ _ _ _ _ _ _ _ _ _ _ _ _ _ _ _ _ _ _ _ _ _ _ _ _ _ _ _ _ _ _ _ _ _ _ _ _ _ _ _ _ _ _ _ _ _ _ _ _ w (by simp [h0]) (by simp [h1])
  have h1 := Classical.not_not.1 z1
  clear z1
  by_cases z2 : ¬ (e.f.kd = d.f.kd)
  · have h2 := z2
    have hz : sF e.f d.f = false := Bool.eq_false_iff.2 (fun z => h2 (congrArg Fct.kd ((sF_iff _ _).1 z)))
    rw [hz]
    exact same_kd _ _ _ _ _ _ _ _ _ _ _ _ _ _ _ _ _ _ _ _ _ _ _ _ _ _ _ _ _ _ _ _ _ _ _ _ _ _ _ _ _ _ _ _ _ _ _ _ _ _ _ _ _ _ _ _ _ _ w (by simp [h0]) (by simp [h1]) (by simp [h2])
  have h2 := Classical.not_not.1 z2
  clear z2
  by_cases z3 : ¬ (e.f.st = d.f.st)
  · have h3 := z3
    have hz : sF e.f d.f = false := Bool.eq_false_iff.2 (fun z => h3 (congrArg Fct.st ((sF_iff _ _).1 z)))
    rw [hz]
    exact same_st _ _ _ _ _ _ _ _ _ _ _ _ _ _ _ _ _ _ _ _ _ _ _ _ _ _ _ _ _ _ _ _ _ _ _ _ _ _ _ _ _ _ _ _ _ _ _ _ _ _ _ _ _ _ _ _ _ _ w (by simp [h0]) (by simp [h1]) (by simp [h2]) (by simp [h3])
  have h3 := Classical.not_not.1 z3
  clear z3
  by_cases z4 : ¬ (e.f.lg = d.f.lg)
  · have h4 := z4
    have hz : sF e.f d.f = false := Bool.eq_false_iff.2 (fun z => h4 (congrArg Fct.lg ((sF_iff _ _).1 z)))
    rw [hz]
    exact same_lg _ _ _ _ _ _ _ _ _ _ _ _ _ _ _ _ _ _ _ _ _ _ _ _ _ _ _ _ _ _ _ _ _ _ _ _ _ _ _ _ _ _ _ _ _ _ _ _ _ _ _ _ _ _ _ _ _ _ w (by simp [h0]) (by simp [h1]) (by simp [h2]) (by simp [h3]) (by rw [toList_mk, toList_mk]; simpa using h4) (by rw [toList_mk, toList_mk]; exact h4)
  have h4 := Classical.not_not.1 z4
  clear z4
  by_cases z5 : ¬ (e.f.rv = d.f.rv)
  · have h5 := z5
    have hz : sF e.f d.f = false := Bool.eq_false_iff.2 (fun z => h5 (congrArg Fct.rv ((sF_iff _ _).1 z)))
    rw [hz]
    exact same_rv _ _ _ _ _ _ _ _ _ _ _ _ _ _ _ _ _ _ _ _ _ _ _ _ _ _ _ _ _ _ _ _ _ _ _ _ _ _ _ _ _ _ _ _ _ _ _ _ _ _ _ _ _ _ _ _ _ _ w (by simp [h0]) (by simp [h1]) (by simp [h2]) (by simp [h3]) (by rw [h4]) (by simp [h5])
  have h5 := Classical.not_not.1 z5
  clear z5
  by_cases z6 : ¬ (e.f.bs = d.f.bs)
  · have h6 := z6
    have hz : sF e.f d.f = false := Bool.eq_false_iff.2 (fun z => h6 (congrArg Fct.bs ((sF_iff _ _).1 z)))
    rw [hz]
    exact same_bs _ _ _ _ _ _ _ _ _ _ _ _ _ _ _ _ _ _ _ _ _ _ _ _ _ _ _ _ _ _ _ _ _ _ _ _ _ _ _ _ _ _ _ _ _ _ _ _ _ _ _ _ _ _ _ _ _ _ w (by simp [h0]) (by simp [h1]) (by simp [h2]) (by simp [h3]) (by rw [h4]) (by simp [h5]) (by simp [h6])
  have h6 := Classical.not_not.1 z6
  clear z6
  by_cases z7 : ¬ (e.f.ti = d.f.ti)
  · have h7 := z7
    have hz : sF e.f d.f = false := Bool.eq_false_iff.2 (fun z => h7 (congrArg Fct.ti ((sF_iff _ _).1 z)))
    rw [hz]
    exact same_ti _ _ _ _ _ _ _ _ _ _ _ _ _ _ _ _ _ _ _ _ _ _ _ _ _ _ _ _ _ _ _ _ _ _ _ _ _ _ _ _ _ _ _ _ _ _ _ _ _ _ _ _ _ _ _ _ _ _ w (by simp [h0]) (by simp [h1]) (by simp [h2]) (by simp [h3]) (by rw [h4]) (by simp [h5]) (by simp [h6]) (by rw [toList_mk, toList_mk]; simpa using h7) (by rw [toList_mk, toList_mk]; exact h7)
  have h7 := Classical.not_not.1 z7
  clear z7
  by_cases z8 : ¬ (e.f.au = d.f.au)
  · have h8 := z8
    have hz : sF e.f d.f = false := Bool.eq_false_iff.2 (fun z => h8 (congrArg Fct.au ((sF_iff _ _).1 z)))
    rw [hz]
    exact same_au _ _ _ _ _ _ _ _ _ _ _ _ _ _ _ _ _ _ _ _ _ _ _ _ _ _ _ _ _ _ _ _ _ _ _ _ _ _ _ _ _ _ _ _ _ _ _ _ _ _ _ _ _ _ _ _ _ _ w (by simp [h0]) (by simp [h1]) (by simp [h2]) (by simp [h3]) (by rw [h4]) (by simp [h5]) (by simp [h6]) (by rw [h7]) (by rw [toList_mk, toList_mk]; simpa using h8) (by rw [toList_mk, toList_mk]; exact h8)
  have h8 := Classical.not_not.1 z8
  clear z8
  by_cases z9 : ¬ (e.f.tp = d.f.tp)
  · have h9 := z9
    have hz : sF e.f d.f = false := Bool.eq_false_iff.2 (fun z => h9 (congrArg Fct.tp ((sF_iff _ _).1 z)))
    rw [hz]
    exact same_tp _ _ _ _ _ _ _ _ _ _ _ _ _ _ _ _ _ _ _ _ _ _ _ _ _ _ _ _ _ _ _ _ _ _ _ _ _ _ _ _ _ _ _ _ _ _ _ _ _ _ _ _ _ _ _ _ _ _ w (by simp [h0]) (by simp [h1]) (by simp [h2]) (by simp [h3]) (by rw [h4]) (by simp [h5]) (by simp [h6]) (by rw [h7]) (by rw [h8]) (Lib.hid fun W hW => by have q := KT W hW; rw [show decide (e.f.tp = d.f.tp) = false by simp [h9]] at q; exact q)
  have h9 := Classical.not_not.1 z9
  clear z9
  by_cases z10 : ¬ (e.f.bl = d.f.bl)
  · have h10 := z10
    have hz : sF e.f d.f = false := Bool.eq_false_iff.2 (fun z => h10 (congrArg Fct.bl ((sF_iff _ _).1 z)))
    rw [hz]
    exact same_bl _ _ _ _ _ _ _ _ _ _ _ _ _ _ _ _ _ _ _ _ _ _ _ _ _ _ _ _ _ _ _ _ _ _ _ _ _ _ _ _ _ _ _ _ _ _ _ _ _ _ _ _ _ _ _ _ _ _ w (by simp [h0]) (by simp [h1]) (by simp [h2]) (by simp [h3]) (by rw [h4]) (by simp [h5]) (by simp [h6]) (by rw [h7]) (by rw [h8]) (Lib.hid fun W hW => by have q := KT W hW; rw [show decide (e.f.tp = d.f.tp) = true by simp [h9]] at q; exact q) (Lib.hid fun W hW => by have q := KB W hW; rw [show sL e.f.bl d.f.bl = false from Bool.eq_false_iff.2 (fun z => h10 ((sL_iff _ _).1 z))] at q; exact q)
  have h10 := Classical.not_not.1 z10
  clear z10
  by_cases z11 : ¬ (e.f.lb = d.f.lb)
  · have h11 := z11
    have hz : sF e.f d.f = false := Bool.eq_false_iff.2 (fun z => h11 (congrArg Fct.lb ((sF_iff _ _).1 z)))
    rw [hz]
    exact same_lb _ _ _ _ _ _ _ _ _ _ _ _ _ _ _ _ _ _ _ _ _ _ _ _ _ _ _ _ _ _ _ _ _ _ _ _ _ _ _ _ _ _ _ _ _ _ _ _ _ _ _ _ _ _ _ _ _ _ w (by simp [h0]) (by simp [h1]) (by simp [h2]) (by simp [h3]) (by rw [h4]) (by simp [h5]) (by simp [h6]) (by rw [h7]) (by rw [h8]) (Lib.hid fun W hW => by have q := KT W hW; rw [show decide (e.f.tp = d.f.tp) = true by simp [h9]] at q; exact q) (Lib.hid fun W hW => by have q := KB W hW; rw [show sL e.f.bl d.f.bl = true by rw [h10]; exact sL_self _] at q; exact q) (Lib.hid fun W hW => by have q := KL W hW; rw [show sameB e.f.lb d.f.lb = false from Bool.eq_false_iff.2 (fun z => h11 ((sameB_iff _ _).1 z))] at q; exact q)
  have h11 := Classical.not_not.1 z11
  clear z11
  by_cases z12 : ¬ (e.f.ed = d.f.ed)
  · have h12 := z12
    have hz : sF e.f d.f = false := Bool.eq_false_iff.2 (fun z => h12 (congrArg Fct.ed ((sF_iff _ _).1 z)))
    rw [hz]
    exact same_ed _ _ _ _ _ _ _ _ _ _ _ _ _ _ _ _ _ _ _ _ _ _ _ _ _ _ _ _ _ _ _ _ _ _ _ _ _ _ _ _ _ _ _ _ _ _ _ _ _ _ _ _ _ _ _ _ _ _ w (by simp [h0]) (by simp [h1]) (by simp [h2]) (by simp [h3]) (by rw [h4]) (by simp [h5]) (by simp [h6]) (by rw [h7]) (by rw [h8]) (by simp [h12]) (Lib.hid fun W hW => by have q := KT W hW; rw [show decide (e.f.tp = d.f.tp) = true by simp [h9]] at q; exact q) (Lib.hid fun W hW => by have q := KB W hW; rw [show sL e.f.bl d.f.bl = true by rw [h10]; exact sL_self _] at q; exact q) (Lib.hid fun W hW => by have q := KL W hW; rw [show sameB e.f.lb d.f.lb = true by rw [h11]; exact (sameB_iff _ _).2 rfl] at q; exact q)
  have h12 := Classical.not_not.1 z12
  clear z12
  by_cases z13 : ¬ (e.f.bk = d.f.bk)
  · have h13 := z13
    have hz : sF e.f d.f = false := Bool.eq_false_iff.2 (fun z => h13 (congrArg Fct.bk ((sF_iff _ _).1 z)))
    rw [hz]
    exact same_bk _ _ _ _ _ _ _ _ _ _ _ _ _ _ _ _ _ _ _ _ _ _ _ _ _ _ _ _ _ _ _ _ _ _ _ _ _ _ _ _ _ _ _ _ _ _ _ _ _ _ _ _ _ _ _ _ _ _ w (by simp [h0]) (by simp [h1]) (by simp [h2]) (by simp [h3]) (by rw [h4]) (by simp [h5]) (by simp [h6]) (by rw [h7]) (by rw [h8]) (by simp [h12]) (by simp [h13]) (Lib.hid fun W hW => by have q := KT W hW; rw [show decide (e.f.tp = d.f.tp) = true by simp [h9]] at q; exact q) (Lib.hid fun W hW => by have q := KB W hW; rw [show sL e.f.bl d.f.bl = true by rw [h10]; exact sL_self _] at q; exact q) (Lib.hid fun W hW => by have q := KL W hW; rw [show sameB e.f.lb d.f.lb = true by rw [h11]; exact (sameB_iff _ _).2 rfl] at q; exact q)
  have h13 := Classical.not_not.1 z13
  clear z13
  by_cases z14 : ¬ (e.f.se = d.f.se)
  · have h14 := z14
    have hz : sF e.f d.f = false := Bool.eq_false_iff.2 (fun z => h14 (congrArg Fct.se ((sF_iff _ _).1 z)))
    rw [hz]
    exact same_se _ _ _ _ _ _ _ _ _ _ _ _ _ _ _ _ _ _ _ _ _ _ _ _ _ _ _ _ _ _ _ _ _ _ _ _ _ _ _ _ _ _ _ _ _ _ _ _ _ _ _ _ _ _ _ _ _ _ w (by simp [h0]) (by simp [h1]) (by simp [h2]) (by simp [h3]) (by rw [h4]) (by simp [h5]) (by simp [h6]) (by rw [h7]) (by rw [h8]) (by simp [h12]) (by simp [h13]) (by simp [h14]) (Lib.hid fun W hW => by have q := KT W hW; rw [show decide (e.f.tp = d.f.tp) = true by simp [h9]] at q; exact q) (Lib.hid fun W hW => by have q := KB W hW; rw [show sL e.f.bl d.f.bl = true by rw [h10]; exact sL_self _] at q; exact q) (Lib.hid fun W hW => by have q := KL W hW; rw [show sameB e.f.lb d.f.lb = true by rw [h11]; exact (sameB_iff _ _).2 rfl] at q; exact q)
  have h14 := Classical.not_not.1 z14
  clear z14
  by_cases z15 : ¬ (e.f.tx = d.f.tx)
  · have h15 := z15
    have hz : sF e.f d.f = false := Bool.eq_false_iff.2 (fun z => h15 (congrArg Fct.tx ((sF_iff _ _).1 z)))
    rw [hz]
    exact same_tx _ _ _ _ _ _ _ _ _ _ _ _ _ _ _ _ _ _ _ _ _ _ _ _ _ _ _ _ _ _ _ _ _ _ _ _ _ _ _ _ _ _ _ _ _ _ _ _ _ _ _ _ _ _ _ _ _ _ w (by simp [h0]) (by simp [h1]) (by simp [h2]) (by simp [h3]) (by rw [h4]) (by simp [h5]) (by simp [h6]) (by rw [h7]) (by rw [h8]) (by simp [h12]) (by simp [h13]) (by simp [h14]) (by rw [toList_mk, toList_mk]; simpa using h15) (by rw [toList_mk, toList_mk]; exact h15) (Lib.hid fun W hW => by have q := KT W hW; rw [show decide (e.f.tp = d.f.tp) = true by simp [h9]] at q; exact q) (Lib.hid fun W hW => by have q := KB W hW; rw [show sL e.f.bl d.f.bl = true by rw [h10]; exact sL_self _] at q; exact q) (Lib.hid fun W hW => by have q := KL W hW; rw [show sameB e.f.lb d.f.lb = true by rw [h11]; exact (sameB_iff _ _).2 rfl] at q; exact q)
  have h15 := Classical.not_not.1 z15
  clear z15
  by_cases z16 : ¬ (e.f.nm = d.f.nm)
  · have h16 := z16
    have hz : sF e.f d.f = false := Bool.eq_false_iff.2 (fun z => h16 (congrArg Fct.nm ((sF_iff _ _).1 z)))
    rw [hz]
    exact same_nm _ _ _ _ _ _ _ _ _ _ _ _ _ _ _ _ _ _ _ _ _ _ _ _ _ _ _ _ _ _ _ _ _ _ _ _ _ _ _ _ _ _ _ _ _ _ _ _ _ _ _ _ _ _ _ _ _ _ w (by simp [h0]) (by simp [h1]) (by simp [h2]) (by simp [h3]) (by rw [h4]) (by simp [h5]) (by simp [h6]) (by rw [h7]) (by rw [h8]) (by simp [h12]) (by simp [h13]) (by simp [h14]) (by rw [h15]) (by rw [toList_mk, toList_mk]; simpa using h16) (by rw [toList_mk, toList_mk]; exact h16) (Lib.hid fun W hW => by have q := KT W hW; rw [show decide (e.f.tp = d.f.tp) = true by simp [h9]] at q; exact q) (Lib.hid fun W hW => by have q := KB W hW; rw [show sL e.f.bl d.f.bl = true by rw [h10]; exact sL_self _] at q; exact q) (Lib.hid fun W hW => by have q := KL W hW; rw [show sameB e.f.lb d.f.lb = true by rw [h11]; exact (sameB_iff _ _).2 rfl] at q; exact q)
  have h16 := Classical.not_not.1 z16
  clear z16
  by_cases z17 : ¬ (e.f.pt = d.f.pt)
  · have h17 := z17
    have hz : sF e.f d.f = false := Bool.eq_false_iff.2 (fun z => h17 (congrArg Fct.pt ((sF_iff _ _).1 z)))
    rw [hz]
    exact same_pt _ _ _ _ _ _ _ _ _ _ _ _ _ _ _ _ _ _ _ _ _ _ _ _ _ _ _ _ _ _ _ _ _ _ _ _ _ _ _ _ _ _ _ _ _ _ _ _ _ _ _ _ _ _ _ _ _ _ w (by simp [h0]) (by simp [h1]) (by simp [h2]) (by simp [h3]) (by rw [h4]) (by simp [h5]) (by simp [h6]) (by rw [h7]) (by rw [h8]) (by simp [h12]) (by simp [h13]) (by simp [h14]) (by rw [h15]) (by rw [h16]) (by simp [h17]) (Lib.hid fun W hW => by have q := KT W hW; rw [show decide (e.f.tp = d.f.tp) = true by simp [h9]] at q; exact q) (Lib.hid fun W hW => by have q := KB W hW; rw [show sL e.f.bl d.f.bl = true by rw [h10]; exact sL_self _] at q; exact q) (Lib.hid fun W hW => by have q := KL W hW; rw [show sameB e.f.lb d.f.lb = true by rw [h11]; exact (sameB_iff _ _).2 rfl] at q; exact q)
  have h17 := Classical.not_not.1 z17
  clear z17
  by_cases z18 : ¬ (e.f.cl = d.f.cl)
  · have h18 := z18
    have hz : sF e.f d.f = false := Bool.eq_false_iff.2 (fun z => h18 (congrArg Fct.cl ((sF_iff _ _).1 z)))
    rw [hz]
    exact same_cl _ _ _ _ _ _ _ _ _ _ _ _ _ _ _ _ _ _ _ _ _ _ _ _ _ _ _ _ _ _ _ _ _ _ _ _ _ _ _ _ _ _ _ _ _ _ _ _ _ _ _ _ _ _ _ _ _ _ w (by simp [h0]) (by simp [h1]) (by simp [h2]) (by simp [h3]) (by rw [h4]) (by simp [h5]) (by simp [h6]) (by rw [h7]) (by rw [h8]) (by simp [h12]) (by simp [h13]) (by simp [h14]) (by rw [h15]) (by rw [h16]) (by simp [h17]) (by simp [h18]) (Lib.hid fun W hW => by have q := KT W hW; rw [show decide (e.f.tp = d.f.tp) = true by simp [h9]] at q; exact q) (Lib.hid fun W hW => by have q := KB W hW; rw [show sL e.f.bl d.f.bl = true by rw [h10]; exact sL_self _] at q; exact q) (Lib.hid fun W hW => by have q := KL W hW; rw [show sameB e.f.lb d.f.lb = true by rw [h11]; exact (sameB_iff _ _).2 rfl] at q; exact q)
  have h18 := Classical.not_not.1 z18
  clear z18
  by_cases z19 : ¬ (e.f.un = d.f.un)
  · have h19 := z19
    have hz : sF e.f d.f = false := Bool.eq_false_iff.2 (fun z => h19 (congrArg Fct.un ((sF_iff _ _).1 z)))
    rw [hz]
    exact same_un _ _ _ _ _ _ _ _ _ _ _ _ _ _ _ _ _ _ _ _ _ _ _ _ _ _ _ _ _ _ _ _ _ _ _ _ _ _ _ _ _ _ _ _ _ _ _ _ _ _ _ _ _ _ _ _ _ _ w (by simp [h0]) (by simp [h1]) (by simp [h2]) (by simp [h3]) (by rw [h4]) (by simp [h5]) (by simp [h6]) (by rw [h7]) (by rw [h8]) (by simp [h12]) (by simp [h13]) (by simp [h14]) (by rw [h15]) (by rw [h16]) (by simp [h17]) (by simp [h18]) (by simp [h19]) (Lib.hid fun W hW => by have q := KT W hW; rw [show decide (e.f.tp = d.f.tp) = true by simp [h9]] at q; exact q) (Lib.hid fun W hW => by have q := KB W hW; rw [show sL e.f.bl d.f.bl = true by rw [h10]; exact sL_self _] at q; exact q) (Lib.hid fun W hW => by have q := KL W hW; rw [show sameB e.f.lb d.f.lb = true by rw [h11]; exact (sameB_iff _ _).2 rfl] at q; exact q)
  have h19 := Classical.not_not.1 z19
  clear z19
  have hz : sF e.f d.f = true := (sF_iff _ _).2 (fct_ext h0 h1 h2 h3 h4 h5 h6 h7 h8 h9 h10 h11 h12 h13 h14 h15 h16 h17 h18 h19)
  rw [hz]
  exact same_end _ _ _ _ _ _ _ _ _ _ _ _ _ _ _ _ _ _ _ _ _ _ _ _ _ _ _ _ _ _ _ _ _ _ _ _ _ _ _ _ _ _ _ _ _ _ _ _ _ _ _ _ _ _ _ _ _ _ w (by simp [h0]) (by simp [h1]) (by simp [h2]) (by simp [h3]) (by rw [h4]) (by simp [h5]) (by simp [h6]) (by rw [h7]) (by rw [h8]) (by simp [h12]) (by simp [h13]) (by simp [h14]) (by rw [h15]) (by rw [h16]) (by simp [h17]) (by simp [h18]) (by simp [h19]) (Lib.hid fun W hW => by have q := KT W hW; rw [show decide (e.f.tp = d.f.tp) = true by simp [h9]] at q; exact q) (Lib.hid fun W hW => by have q := KB W hW; rw [show sL e.f.bl d.f.bl = true by rw [h10]; exact sL_self _] at q; exact q) (Lib.hid fun W hW => by have q := KL W hW; rw [show sameB e.f.lb d.f.lb = true by rw [h11]; exact (sameB_iff _ _).2 rfl] at q; exact q)
end Go.Proofs.YtlhcckjfgpcohaaGreatDoor
namespace Go.Proofs.YtlhcckjfgpcohaaGreatDoor
open Go.RowKit
set_option maxRecDepth 100000
set_option linter.unusedSimpArgs false
set_option linter.unusedVariables false
/-- e with the fields of a list zero. -/
def clrL (l : List Fld) (e : FE) : FE := l.foldl (fun r x => clrE x r) e
theorem clrL_f : ∀ (l : List Fld) (e : FE), (clrL l e).f = setL l zF e.f
  | [], e => rfl
  | x :: l, e => by
    show (clrL l (clrE x e)).f = setL l zF (setF x zF e.f)
    rw [clrL_f l, clrE_f]
theorem clrL_snoc (l : List Fld) (x : Fld) (e : FE) : clrL (l ++ [x]) e = clrE x (clrL l e) := by simp [clrL]
theorem clrL_ok {w : World} : ∀ (l : List Fld) (e : FE), FeOk w e → FeOk w (clrL l e)
  | [], e, h => h
  | x :: l, e, h => clrL_ok l (clrE x e) (clrE_ok h)
theorem take_snocF {l : List Fld} {k : Nat} {x : Fld} (h : l[k]? = some x) : l.take (k + 1) = l.take k ++ [x] := by
  obtain ⟨hk, rfl⟩ := List.getElem?_eq_some_iff.1 h
  rw [List.take_succ_eq_append_getElem hk]
/-- No cell of a fact is a function. -/
theorem elF_nofunc (e : FE) (j : Nat) (f : Fn) (p c : Array Value) : (elF e)[j]? ≠ some (.func f p c) := by
  intro h
  have hm := List.mem_of_getElem? h
  simp [elF] at hm
theorem blk1_ne {W : World} {B g : Nat} {e : FE} {v : Value} (hF : FcAt W B e) (h : Blk1 W g v) : g ≠ B := by
  obtain ⟨t, ht⟩ := h
  rintro rfl
  unfold FcAt at hF
  rw [hF] at ht
  have := congrArg Array.size (Obj.cells.inj (Option.some.inj ht)).1
  simp [elF] at this
theorem Blk1.keeps {W W' : World} {B g : Nat} {e : FE} {v : Value} (hF : FcAt W B e) (hk : Keeps B W W') (h : Blk1 W g v) : Blk1 W' g v := by
  have hne := blk1_ne hF h
  obtain ⟨t, ht⟩ := h
  exact ⟨t, hk.heap ht hne⟩
theorem TstAt.keeps {W W' : World} {B g : Nat} {e : FE} {x : Fld} (hF : FcAt W B e) (hk : Keeps B W W') (h : TstAt W x g) : TstAt W' x g := by
  unfold TstAt at h ⊢
  split
  · rename_i q
    rw [q] at h
    obtain ⟨lo, hi, h1, h2, h3⟩ := h
    exact ⟨lo, hi, h1.keeps hF hk, h2.keeps hF hk, h3.keeps hF hk⟩
  · rename_i q
    split at h
    · rename_i q2; exact absurd q2 q
    · exact h.keeps hF hk
theorem IsFld.keeps {W W' : World} {B : Nat} {e : FE} {x : Fld} {v : V3} (hF : FcAt W B e) (hk : Keeps B W W') (h : IsFld W x v) : IsFld W' x v := by
  obtain ⟨g3, g4, g5, h0, h1, h2, h3⟩ := h
  exact ⟨g3, g4, g5, h0, h1.keeps hF hk, h2.keeps hF hk, h3.keeps hF hk⟩
theorem Flds.keeps {W W' : World} {B : Nat} {e : FE} (hF : FcAt W B e) (hk : Keeps B W W') : ∀ {l : List Fld} {vs : List V3}, Flds W l vs → Flds W' l vs
  | [], [], _ => trivial
  | x :: l, v :: vs, h => ⟨h.1.keeps hF hk, Flds.keeps hF hk h.2⟩
  | [], _ :: _, h => h
  | _ :: _, [], h => h
theorem IsFls.keeps {W W' : World} {B : Nat} {e : FE} {a : Option Addr} {n c : Nat} {l : List Fld} (hF : FcAt W B e) (hk : Keeps B W W') (h0 : 0 < l.length) (h : IsFls W a n c l) : IsFls W' a n c l := by
  obtain ⟨vs, ⟨h1, h2, h3, h4, b, off, e5, h6, h7⟩, hf⟩ := h
  obtain ⟨x, hx⟩ : ∃ x, l[0]? = some x := ⟨l[0], List.getElem?_eq_getElem h0⟩
  obtain ⟨v, hv, hfl⟩ := hf.at hx
  have hne : b ≠ B := by
    rintro rfl
    obtain ⟨g3, g4, g5, rfl, _⟩ := hfl
    have := h7 0 _ hv 0 _ rfl
    rw [hF.cell] at this
    exact elF_nofunc _ _ _ _ _ this
  refine ⟨vs, ⟨h1, h2, h3, h4, b, off, e5, (by obtain ⟨cs, t, fr, hh⟩ := h6; exact ⟨cs, t, fr, hk.heap hh hne⟩), fun k v hv j u hu => ?_⟩, hf.keeps hF hk⟩
  have hc := h7 k v hv j u hu
  unfold World.cell? at hc ⊢
  rw [hk.block b h6.lt hne]
  exact hc
theorem fls_at {W : World} {a : Option Addr} {n c : Nat} {l : List Fld} {k : Nat} {x : Fld} (h : IsFls W a n c l) (hx : l[k]? = some x) :
    ∃ b off g3 g4 g5, a = some ⟨b, off, none⟩ ∧ Blk1 W g3 (.func (.func (plN x)) #[] #[]) ∧ Blk1 W g4 (.func x.cls.code #[] #[]) ∧ TstAt W x g5 ∧
      W.cell? ⟨b, off + k * 3, none⟩ = some (.func (.func x.cls.f1) #[] #[pt g4, pt g3]) ∧ W.cell? ⟨b, off + k * 3 + 1, none⟩ = some (if isBs x = true then .func (.func 77) #[] #[] else .func (.func x.cls.f2) #[] #[pt g5, pt g3]) ∧ W.cell? ⟨b, off + k * 3 + 2, none⟩ = some (.func (.func x.cls.f3) #[] #[pt g3]) := by
  obtain ⟨vs, ⟨h1, h2, h3, h4, b, off, e5, h6, h7⟩, hf⟩ := h
  obtain ⟨v, hv, g3, g4, g5, rfl, b3, b4, b5⟩ := hf.at hx
  exact ⟨b, off, g3, g4, g5, e5, b3, b4, b5, h7 k _ hv 0 _ rfl, h7 k _ hv 1 _ rfl, h7 k _ hv 2 _ rfl⟩
/-- Whatever stands behind Rev in a list comes behind Rev's test. -/
theorem rv_first {k : Int} {l : List Fld} (h : ownF k = some l) {i : Nat} (hi : (hdF ++ l)[i]? = some .bs) : .rv ∈ (hdF ++ l).take i := by
  rcases own_cases h with ⟨_, rfl⟩ | ⟨_, rfl⟩ | ⟨_, rfl⟩ | ⟨_, rfl⟩ | ⟨_, rfl⟩ | ⟨_, rfl⟩ | ⟨_, rfl⟩ | ⟨_, rfl⟩ | ⟨_, rfl⟩ | ⟨_, rfl⟩ <;>
  · have hlt := (List.getElem?_eq_some_iff.1 hi).1
    simp only [hdF, List.cons_append, List.nil_append, List.length_cons, List.length_nil] at hlt
    rcases i with _ | _ | _ | _ | _ | _ | _ | _ | _ | _ | _ | _ | i <;> first | (simp [hdF] at hi; done) | (simp [hdF]; done) | omega
def ValTo (f : Fct) (l : List Fld) (k : Nat) : Prop := ∀ x ∈ l.take k, valF x f = true
/-- The cells of a fact. -/
theorem FcAt.all {W : World} {B : Nat} {e : FE} (h : FcAt W B e) : W.cell? ⟨B, 0, none⟩ = some (.int .i64 e.f.n) ∧ W.cell? ⟨B, 1, none⟩ = some (.int .i64 e.f.tm) ∧ W.cell? ⟨B, 2, none⟩ = some (.int .i64 e.f.kd) ∧ W.cell? ⟨B, 3, none⟩ = some (.int .i64 e.f.st) ∧ W.cell? ⟨B, 4, none⟩ = some (.string ⟨e.f.lg.toArray⟩) ∧ W.cell? ⟨B, 5, none⟩ = some (.int .i64 e.f.rv) ∧ W.cell? ⟨B, 6, none⟩ = some (.int .i64 e.f.bs) ∧ W.cell? ⟨B, 7, none⟩ = some (.string ⟨e.f.ti.toArray⟩) ∧ W.cell? ⟨B, 8, none⟩ = some (.string ⟨e.f.au.toArray⟩) ∧ W.cell? ⟨B, 9, none⟩ = some (.slice e.ta e.tn e.tc) ∧ W.cell? ⟨B, 10, none⟩ = some (.slice e.ba e.bn e.bc) ∧ W.cell? ⟨B, 11, none⟩ = some (.int .i64 e.f.lb.u) ∧ W.cell? ⟨B, 12, none⟩ = some (.slice e.la e.ln e.lc) ∧ W.cell? ⟨B, 13, none⟩ = some (.int .i64 e.f.lb.ap) ∧ W.cell? ⟨B, 14, none⟩ = some (.int .i64 e.f.lb.d) ∧ W.cell? ⟨B, 15, none⟩ = some (.int .i64 e.f.ed) ∧ W.cell? ⟨B, 16, none⟩ = some (.int .i64 e.f.bk) ∧ W.cell? ⟨B, 17, none⟩ = some (.int .i64 e.f.se) ∧ W.cell? ⟨B, 18, none⟩ = some (.string ⟨e.f.tx.toArray⟩) ∧ W.cell? ⟨B, 19, none⟩ = some (.string ⟨e.f.nm.toArray⟩) ∧ W.cell? ⟨B, 20, none⟩ = some (.int .i64 e.f.pt) ∧ W.cell? ⟨B, 21, none⟩ = some (.int .i64 e.f.cl) ∧ W.cell? ⟨B, 22, none⟩ = some (.int .i64 e.f.un) :=
  ⟨h.cell 0, h.cell 1, h.cell 2, h.cell 3, h.cell 4, h.cell 5, h.cell 6, h.cell 7, h.cell 8, h.cell 9, h.cell 10, h.cell 11, h.cell 12, h.cell 13, h.cell 14, h.cell 15, h.cell 16, h.cell 17, h.cell 18, h.cell 19, h.cell 20, h.cell 21, h.cell 22⟩
theorem one_elF (e : FE) : (elF e).toArray.all (·.oneCell') = true := by
  rw [List.all_toArray]; rfl
theorem wpList_load28 {ops : Array Oper} {rest : List Oper} {op : Oper} {a : Act} {W : World} {Q : Exit → Act → World → Prop} (x : Operand) (B : Nat) (e : FE) (F : FcAt W B e) (hgd : op.guard = none) (ho : op.op = .load 28 x)
    (hx : a.eval x = .pointer (some ⟨B, 0, none⟩)) (h : wpList Tryz.prog ops Q rest (a.put op.dst (.agg #[.int .i64 e.f.n, .int .i64 e.f.tm, .int .i64 e.f.kd, .int .i64 e.f.st, .string ⟨e.f.lg.toArray⟩, .int .i64 e.f.rv, .int .i64 e.f.bs, .string ⟨e.f.ti.toArray⟩, .string ⟨e.f.au.toArray⟩, .slice e.ta e.tn e.tc, .slice e.ba e.bn e.bc, .int .i64 e.f.lb.u, .slice e.la e.ln e.lc, .int .i64 e.f.lb.ap, .int .i64 e.f.lb.d, .int .i64 e.f.ed, .int .i64 e.f.bk, .int .i64 e.f.se, .string ⟨e.f.tx.toArray⟩, .string ⟨e.f.nm.toArray⟩, .int .i64 e.f.pt, .int .i64 e.f.cl, .int .i64 e.f.un])) W) : wpList Tryz.prog ops Q (op :: rest) a W :=
  wpList_load_row hgd 28 x ho B hx 28 (elF e).toArray (0, 0) _ F Tryz.underlying28 rfl (by kernel_rfl) h
theorem wpList_store28 {ops : Array Oper} {rest : List Oper} {op : Oper} {a : Act} {W : World} {Q : Exit → Act → World → Prop} (x y : Operand) (d e : FE) (hgd : op.guard = none) (ho : op.op = .store 28 x y)
    (hx : a.eval x = .pointer (some ⟨W.heap.size, 0, none⟩)) (hy : a.eval y = .agg #[.int .i64 e.f.n, .int .i64 e.f.tm, .int .i64 e.f.kd, .int .i64 e.f.st, .string ⟨e.f.lg.toArray⟩, .int .i64 e.f.rv, .int .i64 e.f.bs, .string ⟨e.f.ti.toArray⟩, .string ⟨e.f.au.toArray⟩, .slice e.ta e.tn e.tc, .slice e.ba e.bn e.bc, .int .i64 e.f.lb.u, .slice e.la e.ln e.lc, .int .i64 e.f.lb.ap, .int .i64 e.f.lb.d, .int .i64 e.f.ed, .int .i64 e.f.bk, .int .i64 e.f.se, .string ⟨e.f.tx.toArray⟩, .string ⟨e.f.nm.toArray⟩, .int .i64 e.f.pt, .int .i64 e.f.cl, .int .i64 e.f.un]) (h : wpList Tryz.prog ops Q rest (a.put op.dst undef) (W.alloc (.cells #[.int .i64 e.f.n, .int .i64 e.f.tm, .int .i64 e.f.kd, .int .i64 e.f.st, .string ⟨e.f.lg.toArray⟩, .int .i64 e.f.rv, .int .i64 e.f.bs, .string ⟨e.f.ti.toArray⟩, .string ⟨e.f.au.toArray⟩, .slice e.ta e.tn e.tc, .slice e.ba e.bn e.bc, .int .i64 e.f.lb.u, .slice e.la e.ln e.lc, .int .i64 e.f.lb.ap, .int .i64 e.f.lb.d, .int .i64 e.f.ed, .int .i64 e.f.bk, .int .i64 e.f.se, .string ⟨e.f.tx.toArray⟩, .string ⟨e.f.nm.toArray⟩, .int .i64 e.f.pt, .int .i64 e.f.cl, .int .i64 e.f.un] 28))) :
    wpList Tryz.prog ops Q (op :: rest) a (W.alloc (.cells (elF d).toArray 28)) :=
  wpList_plain hgd fun _ hK => by
    have hr := run_storeAt_new (P := Tryz.prog) W 28 (elF d).toArray (elF e).toArray (by kernel_rfl) (by simp [elF]) (one_elF e)
    unfold Oper.wp execOp
    simp only [ho, hx, hy]
    rw [show (#[.int .i64 e.f.n, .int .i64 e.f.tm, .int .i64 e.f.kd, .int .i64 e.f.st, .string ⟨e.f.lg.toArray⟩, .int .i64 e.f.rv, .int .i64 e.f.bs, .string ⟨e.f.ti.toArray⟩, .string ⟨e.f.au.toArray⟩, .slice e.ta e.tn e.tc, .slice e.ba e.bn e.bc, .int .i64 e.f.lb.u, .slice e.la e.ln e.lc, .int .i64 e.f.lb.ap, .int .i64 e.f.lb.d, .int .i64 e.f.ed, .int .i64 e.f.bk, .int .i64 e.f.se, .string ⟨e.f.tx.toArray⟩, .string ⟨e.f.nm.toArray⟩, .int .i64 e.f.pt, .int .i64 e.f.cl, .int .i64 e.f.un] : Array Value) = (elF e).toArray from rfl, Sem.run_bind, hr]
    exact hK _ _ h
/-- The zero fact. -/
def zE : FE := ⟨zF, none, 0, 0, none, 0, 0, none, 0, 0⟩
theorem zE_ok (w : World) : FeOk w zE := ⟨nil_tp w, nil_bl w, nil_lab w, by simp [zE, zF, Bd], by simp [zE, zF]⟩
theorem vF_cut {f : Fct} {l : List Fld} {k : Nat} {x : Fld} (ho : ownF f.kd = some l) (hx : (hdF ++ l)[k]? = some x) (h : valF x f = false) : vF f = false := by
  unfold vF
  rw [ho]
  have : (hdF ++ l).all (fun x => valF x f) = false := List.all_eq_false.2 ⟨x, List.mem_of_getElem? hx, by simp [h]⟩
  simp [this]
theorem vF_all {f : Fct} {l : List Fld} (ho : ownF f.kd = some l) (h : ValTo f (hdF ++ l) (hdF ++ l).length) : vF f = sF (setL (hdF ++ l) zF f) zF := by
  unfold vF
  rw [ho]
  have : (hdF ++ l).all (fun x => valF x f) = true := List.all_eq_true.2 (fun x hx => h x (by rw [List.take_length]; exact hx))
  simp [this]
theorem valTo_succ {f : Fct} {l : List Fld} {k : Nat} {x : Fld} (h : ValTo f l k) (hx : l[k]? = some x) (hv : valF x f = true) : ValTo f l (k + 1) := by
  intro y hy
  rw [take_snocF hx] at hy
  rcases List.mem_append.1 hy with hy | hy
  · exact h y hy
  · rw [List.mem_singleton.1 hy]; exact hv
set_option maxHeartbeats 16000000 in
theorem valid5_some (e : FE) (l : List Fld) (ho : ownF e.f.kd = some l) (w : World) (h : FeOk w e) : Calls Tryz.prog 13 #[aggF e] w fun r w' => r = .returned (.bool (vF e.f)) ∧ Below w.heap.size w w' := by
  have hlen : 1 ≤ l.length ∧ l.length ≤ 9 := by
    rcases own_cases ho with ⟨_, rfl⟩ | ⟨_, rfl⟩ | ⟨_, rfl⟩ | ⟨_, rfl⟩ | ⟨_, rfl⟩ | ⟨_, rfl⟩ | ⟨_, rfl⟩ | ⟨_, rfl⟩ | ⟨_, rfl⟩ | ⟨_, rfl⟩ <;> simp
  have HO := Lib.hid ho
  have HE := Lib.hid h
  have HLN := Lib.hid hlen
  have KO := Lib.hid (fun W => fieldsOf5 e.f.kd W)
  rw [ho] at KO
  have F0 := Lib.hid (show FcAt (w.alloc (.cells #[.int .i64 e.f.n, .int .i64 e.f.tm, .int .i64 e.f.kd, .int .i64 e.f.st, .string ⟨e.f.lg.toArray⟩, .int .i64 e.f.rv, .int .i64 e.f.bs, .string ⟨e.f.ti.toArray⟩, .string ⟨e.f.au.toArray⟩, .slice e.ta e.tn e.tc, .slice e.ba e.bn e.bc, .int .i64 e.f.lb.u, .slice e.la e.ln e.lc, .int .i64 e.f.lb.ap, .int .i64 e.f.lb.d, .int .i64 e.f.ed, .int .i64 e.f.bk, .int .i64 e.f.se, .string ⟨e.f.tx.toArray⟩, .string ⟨e.f.nm.toArray⟩, .int .i64 e.f.pt, .int .i64 e.f.cl, .int .i64 e.f.un] 28)) w.heap.size e from heap_alloc_new w _)
  have B0 := Lib.hid (below_alloc w (.cells #[.int .i64 e.f.n, .int .i64 e.f.tm, .int .i64 e.f.kd, .int .i64 e.f.st, .string ⟨e.f.lg.toArray⟩, .int .i64 e.f.rv, .int .i64 e.f.bs, .string ⟨e.f.ti.toArray⟩, .string ⟨e.f.au.toArray⟩, .slice e.ta e.tn e.tc, .slice e.ba e.bn e.bc, .int .i64 e.f.lb.u, .slice e.la e.ln e.lc, .int .i64 e.f.lb.ap, .int .i64 e.f.lb.d, .int .i64 e.f.ed, .int .i64 e.f.bk, .int .i64 e.f.se, .string ⟨e.f.tx.toArray⟩, .string ⟨e.f.nm.toArray⟩, .int .i64 e.f.pt, .int .i64 e.f.cl, .int .i64 e.f.un] 28))
  have q2 : (w.alloc (.cells #[.int .i64 e.f.n, .int .i64 e.f.tm, .int .i64 e.f.kd, .int .i64 e.f.st, .string ⟨e.f.lg.toArray⟩, .int .i64 e.f.rv, .int .i64 e.f.bs, .string ⟨e.f.ti.toArray⟩, .string ⟨e.f.au.toArray⟩, .slice e.ta e.tn e.tc, .slice e.ba e.bn e.bc, .int .i64 e.f.lb.u, .slice e.la e.ln e.lc, .int .i64 e.f.lb.ap, .int .i64 e.f.lb.d, .int .i64 e.f.ed, .int .i64 e.f.bk, .int .i64 e.f.se, .string ⟨e.f.tx.toArray⟩, .string ⟨e.f.nm.toArray⟩, .int .i64 e.f.pt, .int .i64 e.f.cl, .int .i64 e.f.un] 28)).cell? ⟨w.heap.size, 2, none⟩ = some (.int .i64 e.f.kd) := F0.out.cell 2
  show Calls _ _ #[.agg #[.int .i64 e.f.n, .int .i64 e.f.tm, .int .i64 e.f.kd, .int .i64 e.f.st, .string ⟨e.f.lg.toArray⟩, .int .i64 e.f.rv, .int .i64 e.f.bs, .string ⟨e.f.ti.toArray⟩, .string ⟨e.f.au.toArray⟩, .slice e.ta e.tn e.tc, .slice e.ba e.bn e.bc, .int .i64 e.f.lb.u, .slice e.la e.ln e.lc, .int .i64 e.f.lb.ap, .int .i64 e.f.lb.d, .int .i64 e.f.ed, .int .i64 e.f.bk, .int .i64 e.f.se, .string ⟨e.f.tx.toArray⟩, .string ⟨e.f.nm.toArray⟩, .int .i64 e.f.pt, .int .i64 e.f.cl, .int .i64 e.f.un]] w _
  clear h ho hlen
  go_enter Tryz.func13, Tryz.ntmps13
  go_wp2_with fail
  refine (KO.out _).mono ?_
  rintro r w1 hr
  obtain ⟨a, n, c, rfl, hfl, bb⟩ : ∃ a n c, r = .returned (.tuple #[.slice a n c, .bool true]) ∧ IsFls w1 a n c l ∧ Below (w.alloc (.cells #[.int .i64 e.f.n, .int .i64 e.f.tm, .int .i64 e.f.kd, .int .i64 e.f.st, .string ⟨e.f.lg.toArray⟩, .int .i64 e.f.rv, .int .i64 e.f.bs, .string ⟨e.f.ti.toArray⟩, .string ⟨e.f.au.toArray⟩, .slice e.ta e.tn e.tc, .slice e.ba e.bn e.bc, .int .i64 e.f.lb.u, .slice e.la e.ln e.lc, .int .i64 e.f.lb.ap, .int .i64 e.f.lb.d, .int .i64 e.f.ed, .int .i64 e.f.bk, .int .i64 e.f.se, .string ⟨e.f.tx.toArray⟩, .string ⟨e.f.nm.toArray⟩, .int .i64 e.f.pt, .int .i64 e.f.cl, .int .i64 e.f.un] 28)).heap.size (w.alloc (.cells #[.int .i64 e.f.n, .int .i64 e.f.tm, .int .i64 e.f.kd, .int .i64 e.f.st, .string ⟨e.f.lg.toArray⟩, .int .i64 e.f.rv, .int .i64 e.f.bs, .string ⟨e.f.ti.toArray⟩, .string ⟨e.f.au.toArray⟩, .slice e.ta e.tn e.tc, .slice e.ba e.bn e.bc, .int .i64 e.f.lb.u, .slice e.la e.ln e.lc, .int .i64 e.f.lb.ap, .int .i64 e.f.lb.d, .int .i64 e.f.ed, .int .i64 e.f.bk, .int .i64 e.f.se, .string ⟨e.f.tx.toArray⟩, .string ⟨e.f.nm.toArray⟩, .int .i64 e.f.pt, .int .i64 e.f.cl, .int .i64 e.f.un] 28)) w1 := hr
  clear q2 KO
  obtain ⟨Bf, hBf⟩ : ∃ Bf, Bf = w.heap.size := ⟨_, rfl⟩
  replace F0 := Lib.hid (F0.out.over bb)
  have HL := Lib.hid hfl
  have HNL := Lib.hid hfl.len
  have HSZ := Lib.hid bb.size
  have BW := Lib.hid (bel2 B0.out bb)
  clear bb hfl B0
  rw [← hBf] at F0 ⊢
  have HBf := Lib.hid hBf
  clear hBf
  go_wp2_with (first | (refine wpList_load28 _ Bf e F0.out rfl rfl rfl ?_) | (refine wpList_store28 _ _ zE e rfl rfl rfl rfl ?_))
  have B2 := below_alloc w1 (.cells #[.int .i64 e.f.n, .int .i64 e.f.tm, .int .i64 e.f.kd, .int .i64 e.f.st, .string ⟨e.f.lg.toArray⟩, .int .i64 e.f.rv, .int .i64 e.f.bs, .string ⟨e.f.ti.toArray⟩, .string ⟨e.f.au.toArray⟩, .slice e.ta e.tn e.tc, .slice e.ba e.bn e.bc, .int .i64 e.f.lb.u, .slice e.la e.ln e.lc, .int .i64 e.f.lb.ap, .int .i64 e.f.lb.d, .int .i64 e.f.ed, .int .i64 e.f.bk, .int .i64 e.f.se, .string ⟨e.f.tx.toArray⟩, .string ⟨e.f.nm.toArray⟩, .int .i64 e.f.pt, .int .i64 e.f.cl, .int .i64 e.f.un] 28)
  have R0 := Lib.hid (show FcAt (w1.alloc (.cells #[.int .i64 e.f.n, .int .i64 e.f.tm, .int .i64 e.f.kd, .int .i64 e.f.st, .string ⟨e.f.lg.toArray⟩, .int .i64 e.f.rv, .int .i64 e.f.bs, .string ⟨e.f.ti.toArray⟩, .string ⟨e.f.au.toArray⟩, .slice e.ta e.tn e.tc, .slice e.ba e.bn e.bc, .int .i64 e.f.lb.u, .slice e.la e.ln e.lc, .int .i64 e.f.lb.ap, .int .i64 e.f.lb.d, .int .i64 e.f.ed, .int .i64 e.f.bk, .int .i64 e.f.se, .string ⟨e.f.tx.toArray⟩, .string ⟨e.f.nm.toArray⟩, .int .i64 e.f.pt, .int .i64 e.f.cl, .int .i64 e.f.un] 28)) w1.heap.size e from heap_alloc_new w1 _)
  replace F0 := Lib.hid (F0.out.over B2)
  replace HL := Lib.hid (HL.out.over B2)
  have hf1 : Bf < w1.heap.size := by have h1 := BW.out.size; have h2 := HSZ.out; have h3 := HBf.out; simp at h2; omega
  replace BW := Lib.hid (bel2 BW.out B2)
  obtain ⟨W1, hW1⟩ : ∃ W1, w1.alloc (.cells #[.int .i64 e.f.n, .int .i64 e.f.tm, .int .i64 e.f.kd, .int .i64 e.f.st, .string ⟨e.f.lg.toArray⟩, .int .i64 e.f.rv, .int .i64 e.f.bs, .string ⟨e.f.ti.toArray⟩, .string ⟨e.f.au.toArray⟩, .slice e.ta e.tn e.tc, .slice e.ba e.bn e.bc, .int .i64 e.f.lb.u, .slice e.la e.ln e.lc, .int .i64 e.f.lb.ap, .int .i64 e.f.lb.d, .int .i64 e.f.ed, .int .i64 e.f.bk, .int .i64 e.f.se, .string ⟨e.f.tx.toArray⟩, .string ⟨e.f.nm.toArray⟩, .int .i64 e.f.pt, .int .i64 e.f.cl, .int .i64 e.f.un] 28) = W1 := ⟨_, rfl⟩
  obtain ⟨Br, hBr⟩ : ∃ Br, Br = w1.heap.size := ⟨_, rfl⟩
  rw [hW1] at B2 R0 F0 HL BW ⊢
  rw [← hBr] at R0 hf1 ⊢
  have hBrs : Br < W1.heap.size := by rw [← hW1, hBr]; simp
  clear B2 hW1 hBr HSZ
  go_wp2_with fail
  refine (head5 _).mono ?_
  rintro r w2 ⟨a3, rfl, h3, b3⟩
  have H3 := Lib.hid h3
  replace F0 := Lib.hid (F0.out.over b3)
  replace R0 := Lib.hid (R0.out.over b3)
  replace HL := Lib.hid (HL.out.over b3)
  replace BW := Lib.hid (bel2 BW.out b3)
  have hBr2 : Br < w2.heap.size := Nat.lt_of_lt_of_le hBrs b3.size
  clear b3 h3 hBrs
  go_wp2_with fail
  have B2 := below_alloc w2 (.cells #[.slice a3 3 3, .slice a n c] 60)
  have G2 := Lib.hid (heap_alloc_new w2 (.cells #[.slice a3 3 3, .slice a n c] 60))
  replace F0 := Lib.hid (F0.out.over B2)
  replace R0 := Lib.hid (R0.out.over B2)
  replace HL := Lib.hid (HL.out.over B2)
  replace H3 := Lib.hid (H3.out.over B2)
  replace BW := Lib.hid (bel2 BW.out B2)
  clear B2
  refine (concat_fls2 w2.heap.size a3 3 3 hdF a n c l _ H3.out HL.out G2.out (by omega) (by have h1 := HLN.out; have h2 := HNL.out; omega)).mono ?_
  rintro r w3 ⟨a4, c4, rfl, h4, b4⟩
  replace F0 := Lib.hid (F0.out.over b4)
  replace R0 := Lib.hid (R0.out.over b4)
  replace BW := Lib.hid (bel2 BW.out b4)
  have hBr3 : Br < w3.heap.size := Nat.lt_of_lt_of_le hBr2 (Nat.le_trans (below_alloc w2 (.cells #[.slice a3 3 3, .slice a n c] 60)).size b4.size)
  have H4 := Lib.hid h4
  obtain ⟨N, hN⟩ : ∃ N, N = 3 + n := ⟨_, rfl⟩
  rw [← hN] at H4 ⊢
  have hN1 : 1 ≤ N := by have h1 := HLN.out; have h2 := HNL.out; omega
  have hN2 : N ≤ 12 := by have h1 := HLN.out; have h2 := HNL.out; omega
  clear b4 h4 H3 HL hBr2 G2 HNL hN
  obtain ⟨fl, hfl⟩ : ∃ fl, fl = hdF ++ l := ⟨_, rfl⟩
  have HFL := Lib.hid hfl
  rw [← hfl] at H4
  clear hfl
  have HNL := Lib.hid H4.out.len
  go_wp2_with fail
  go_loopw [22, 7] (fun i _ wr => ∃ k : Nat, k ≤ N ∧ i = .int .i64 k ∧ Hid (ValTo e.f fl k) ∧ Hid (FcAt wr Bf e) ∧ Hid (FcAt wr Br (clrL (fl.take k) e)) ∧ Hid (IsFls wr a4 N c4 fl) ∧ Hid (Below w.heap.size w wr) ∧ Hid (Br < wr.heap.size)) (fun i _ _ => N - (intOf i).toNat)
  case atStart => exact ⟨0, Nat.zero_le _, rfl, Lib.hid (fun x hx => by simp at hx), F0, R0, H4, BW, Lib.hid hBr3⟩
  case round =>
    clear F0 R0 H4 BW hBr3
    obtain ⟨k, hk, rfl, hvt, F0, R0, H4, BW, HBR⟩ := hrel
    by_cases hlt : k < N
    · obtain ⟨x, hx⟩ : ∃ x, fl[k]? = some x := ⟨fl[k]'(by rw [← HNL.out]; exact hlt), List.getElem?_eq_getElem _⟩
      obtain ⟨b, off, g3, g4, g5, rfl, b3, b4, b5, c0, c1, c2⟩ := fls_at H4.out hx
      have HX := Lib.hid hx
      have HB3 := Lib.hid b3
      have HB5 := Lib.hid b5
      clear hx b3 b4 b5
      have hltn : (k : Int) < N := by omega
      cases hb : isBs x
      · have HIS := Lib.hid hb
        simp only [hb, if_true, if_false, Bool.false_eq_true] at c1
        clear hb
        have E2 := f2_enter x.cls
        have K2 := Lib.hid (fun W hF ok b3 b5 => valid_fld x HIS.out Bf e g3 g5 W hF ok b3 b5)
        have E3 := f3_enter x.cls
        have K3 := Lib.hid (fun W E g hF b3 => clear_fld x Br E g W hF b3)
        generalize x.cls.f1 = f1 at *
        generalize x.cls.f2 = f2 at *
        generalize x.cls.f3 = f3 at *
        go_wp2_with fail
        have BA := below_alloc wr (.cells #[.func (.func f1) #[] #[pt g4, pt g3], .func (.func f2) #[] #[pt g5, pt g3], .func (.func f3) #[] #[pt g3]] 67)
        have X := Lib.hid (heap_alloc_new wr (.cells #[.func (.func f1) #[] #[pt g4, pt g3], .func (.func f2) #[] #[pt g5, pt g3], .func (.func f3) #[] #[pt g3]] 67))
        replace F0 := Lib.hid (F0.out.over BA)
        replace R0 := Lib.hid (R0.out.over BA)
        replace H4 := Lib.hid (H4.out.over BA)
        replace BW := Lib.hid (bel2 BW.out BA)
        replace HB3 := Lib.hid (HB3.out.over BA)
        replace HB5 := Lib.hid (HB5.out.over BA)
        replace HBR := Lib.hid (Nat.lt_of_lt_of_le HBR.out BA.size)
        obtain ⟨WA, hWA⟩ : ∃ WA, wr.alloc (.cells #[.func (.func f1) #[] #[pt g4, pt g3], .func (.func f2) #[] #[pt g5, pt g3], .func (.func f3) #[] #[pt g3]] 67) = WA := ⟨_, rfl⟩
        rw [hWA] at F0 R0 H4 BW HB3 HB5 HBR X ⊢
        obtain ⟨g7, hg7⟩ : ∃ g7, g7 = wr.heap.size := ⟨_, rfl⟩
        rw [← hg7] at X ⊢
        clear BA hWA hg7 c0 c1 c2
        cases hv : valF x e.f
        · have HV := Lib.hid hv
          have KV : Hid (vF e.f = false) := Lib.hid (vF_cut HO.out (HFL.out ▸ HX.out) hv)
          clear hv
          refine (K2.out _ F0.out (HE.out.over BW.out) HB3.out HB5.out).mono ?_
          rintro r w5 ⟨rfl, bq⟩
          rw [HV.out]
          have BWQ := Lib.hid (bel2 BW.out bq)
          clear bq
          go_wp2_with fail
          go_ret
          exact ⟨ret_bool KV.out.symm, BWQ.out⟩
        · have HV := Lib.hid hv
          clear hv
          refine (K2.out _ F0.out (HE.out.over BW.out) HB3.out HB5.out).mono ?_
          rintro r w5 ⟨rfl, bq⟩
          rw [HV.out]
          have BWQ := Lib.hid (bel2 BW.out bq)
          replace F0 := Lib.hid (F0.out.over bq)
          replace R0 := Lib.hid (R0.out.over bq)
          replace H4 := Lib.hid (H4.out.over bq)
          replace HB3 := Lib.hid (HB3.out.over bq)
          replace HBR := Lib.hid (Nat.lt_of_lt_of_le HBR.out bq.size)
          have cX := (cells3 (blockOver bq X.out)).2.2
          clear bq X BW HB5
          go_wp2_with fail
          refine (K3.out _ _ _ R0.out HB3.out).mono ?_
          rintro r w6 ⟨rfl, R1, hk⟩
          have hne : Bf ≠ Br := by omega
          have HF1 := Lib.hid (show FcAt w6 Bf e from hk.heap F0.out hne)
          have HF4 := Lib.hid (H4.out.keeps R0.out hk (by rw [← HNL.out]; omega))
          have HF5 := Lib.hid (BWQ.out.trans (hk.below (by have h1 := BWQ.out.size; omega) (by have h1 := HBf.out; omega)))
          have HF6 := Lib.hid (Nat.lt_of_lt_of_le HBR.out hk.size)
          have HF7 : Hid (FcAt w6 Br (clrL (fl.take (k + 1)) e)) := Lib.hid (by rw [take_snocF HX.out, clrL_snoc]; exact R1)
          have HF8 := Lib.hid (valTo_succ hvt.out HX.out HV.out)
          clear hk R1 F0 R0 H4 BWQ HBR HB3 hne cX
          go_wp2_with fail
          go_roundw
          case rel => exact ⟨k + 1, by omega, by go_num, HF8, HF1, HF7, HF4, HF5, HF6⟩
          case measure => simp [intOf]; omega
      · have HIS := Lib.hid hb
        simp only [hb, if_true, if_false, Bool.false_eq_true] at c1
        clear hb
        obtain rfl : x = .bs := by cases x <;> first | rfl | exact absurd HIS.out (by simp [isBs])
        have HBSV : Hid (inB e.f.bs 0 (e.f.rv - 1) = valF .bs e.f) := Lib.hid rfl
        have HRV : Hid (1 ≤ e.f.rv ∧ e.f.rv ≤ 100) := Lib.hid (by
          have h1 := rv_first HO.out (HFL.out ▸ HX.out)
          rw [← HFL.out] at h1
          have h2 := hvt.out _ h1
          simpa [valF, inB] using h2)
        have K2 := Lib.hid (fun W h6 h5 => bs_call Bf e.f.bs e.f.rv W (by have := HRV.out; omega) h6 h5)
        have E3 := f3_enter Fld.bs.cls
        have K3 := Lib.hid (fun W E g hF b3 => clear_fld .bs Br E g W hF b3)
        generalize Fld.bs.cls.f1 = f1 at *
        generalize Fld.bs.cls.f2 = f2 at *
        generalize Fld.bs.cls.f3 = f3 at *
        go_wp2_with fail
        have BA := below_alloc wr (.cells #[.func (.func f1) #[] #[pt g4, pt g3], .func (.func 77) #[] #[], .func (.func f3) #[] #[pt g3]] 67)
        have X := Lib.hid (heap_alloc_new wr (.cells #[.func (.func f1) #[] #[pt g4, pt g3], .func (.func 77) #[] #[], .func (.func f3) #[] #[pt g3]] 67))
        replace F0 := Lib.hid (F0.out.over BA)
        replace R0 := Lib.hid (R0.out.over BA)
        replace H4 := Lib.hid (H4.out.over BA)
        replace BW := Lib.hid (bel2 BW.out BA)
        replace HB3 := Lib.hid (HB3.out.over BA)
        replace HB5 := Lib.hid (HB5.out.over BA)
        replace HBR := Lib.hid (Nat.lt_of_lt_of_le HBR.out BA.size)
        obtain ⟨WA, hWA⟩ : ∃ WA, wr.alloc (.cells #[.func (.func f1) #[] #[pt g4, pt g3], .func (.func 77) #[] #[], .func (.func f3) #[] #[pt g3]] 67) = WA := ⟨_, rfl⟩
        rw [hWA] at F0 R0 H4 BW HB3 HB5 HBR X ⊢
        obtain ⟨g7, hg7⟩ : ∃ g7, g7 = wr.heap.size := ⟨_, rfl⟩
        rw [← hg7] at X ⊢
        clear BA hWA hg7 c0 c1 c2
        cases hv : valF .bs e.f
        · have HV := Lib.hid hv
          have KV : Hid (vF e.f = false) := Lib.hid (vF_cut HO.out (HFL.out ▸ HX.out) hv)
          clear hv
          refine (K2.out _ (F0.out.cell 6) (F0.out.cell 5)).mono ?_
          rintro r w5 ⟨rfl, bq⟩
          rw [HBSV.out.trans HV.out]
          have BWQ := Lib.hid (bel2 BW.out bq)
          clear bq
          go_wp2_with fail
          go_ret
          exact ⟨ret_bool KV.out.symm, BWQ.out⟩
        · have HV := Lib.hid hv
          clear hv
          refine (K2.out _ (F0.out.cell 6) (F0.out.cell 5)).mono ?_
          rintro r w5 ⟨rfl, bq⟩
          rw [HBSV.out.trans HV.out]
          have BWQ := Lib.hid (bel2 BW.out bq)
          replace F0 := Lib.hid (F0.out.over bq)
          replace R0 := Lib.hid (R0.out.over bq)
          replace H4 := Lib.hid (H4.out.over bq)
          replace HB3 := Lib.hid (HB3.out.over bq)
          replace HBR := Lib.hid (Nat.lt_of_lt_of_le HBR.out bq.size)
          have cX := (cells3 (blockOver bq X.out)).2.2
          clear bq X BW HB5
          go_wp2_with fail
          refine (K3.out _ _ _ R0.out HB3.out).mono ?_
          rintro r w6 ⟨rfl, R1, hk⟩
          have hne : Bf ≠ Br := by omega
          have HF1 := Lib.hid (show FcAt w6 Bf e from hk.heap F0.out hne)
          have HF4 := Lib.hid (H4.out.keeps R0.out hk (by rw [← HNL.out]; omega))
          have HF5 := Lib.hid (BWQ.out.trans (hk.below (by have h1 := BWQ.out.size; omega) (by have h1 := HBf.out; omega)))
          have HF6 := Lib.hid (Nat.lt_of_lt_of_le HBR.out hk.size)
          have HF7 : Hid (FcAt w6 Br (clrL (fl.take (k + 1)) e)) := Lib.hid (by rw [take_snocF HX.out, clrL_snoc]; exact R1)
          have HF8 := Lib.hid (valTo_succ hvt.out HX.out HV.out)
          clear hk R1 F0 R0 H4 BWQ HBR HB3 hne cX
          go_wp2_with fail
          go_roundw
          case rel => exact ⟨k + 1, by omega, by go_num, HF8, HF1, HF7, HF4, HF5, HF6⟩
          case measure => simp [intOf]; omega
    · obtain rfl : N = k := by omega
      have HFIN : Hid (vF e.f = sF (clrL fl e).f zE.f) := Lib.hid (by rw [clrL_f, HFL.out]; show _ = sF _ zF; exact vF_all HO.out (by rw [← HFL.out, ← HNL.out]; exact hvt.out))
      have R1 := Lib.hid (show FcAt wr Br (clrL fl e) by have h := R0.out; rw [HNL.out, List.take_length] at h; exact h)
      have OK1 := Lib.hid (clrL_ok fl e (HE.out.over BW.out))
      have KS := Lib.hid (same5 (clrL fl e) zE wr OK1.out (zE_ok wr))
      generalize clrL fl e = E at *
      go_wp2_with (refine wpList_load28 _ Br E R1.out rfl rfl rfl ?_)
      refine (KS.out).mono ?_
      rintro r w6 ⟨rfl, bq⟩
      rw [← HFIN.out]
      have BWQ := Lib.hid (bel2 BW.out bq)
      clear bq
      go_wp2_with fail
      go_ret
      exact ⟨rfl, BWQ.out⟩
set_option maxHeartbeats 4000000 in
theorem valid5_none (e : FE) (ho : ownF e.f.kd = none) (w : World) : Calls Tryz.prog 13 #[aggF e] w fun r w' => r = .returned (.bool (vF e.f)) ∧ Below w.heap.size w w' := by
  have HV : Hid (vF e.f = false) := Lib.hid (by unfold vF; rw [ho])
  have KO := Lib.hid (fun W => fieldsOf5 e.f.kd W)
  rw [ho] at KO
  have F0 := Lib.hid (show FcAt (w.alloc (.cells #[.int .i64 e.f.n, .int .i64 e.f.tm, .int .i64 e.f.kd, .int .i64 e.f.st, .string ⟨e.f.lg.toArray⟩, .int .i64 e.f.rv, .int .i64 e.f.bs, .string ⟨e.f.ti.toArray⟩, .string ⟨e.f.au.toArray⟩, .slice e.ta e.tn e.tc, .slice e.ba e.bn e.bc, .int .i64 e.f.lb.u, .slice e.la e.ln e.lc, .int .i64 e.f.lb.ap, .int .i64 e.f.lb.d, .int .i64 e.f.ed, .int .i64 e.f.bk, .int .i64 e.f.se, .string ⟨e.f.tx.toArray⟩, .string ⟨e.f.nm.toArray⟩, .int .i64 e.f.pt, .int .i64 e.f.cl, .int .i64 e.f.un] 28)) w.heap.size e from heap_alloc_new w _)
  have B0 := Lib.hid (below_alloc w (.cells #[.int .i64 e.f.n, .int .i64 e.f.tm, .int .i64 e.f.kd, .int .i64 e.f.st, .string ⟨e.f.lg.toArray⟩, .int .i64 e.f.rv, .int .i64 e.f.bs, .string ⟨e.f.ti.toArray⟩, .string ⟨e.f.au.toArray⟩, .slice e.ta e.tn e.tc, .slice e.ba e.bn e.bc, .int .i64 e.f.lb.u, .slice e.la e.ln e.lc, .int .i64 e.f.lb.ap, .int .i64 e.f.lb.d, .int .i64 e.f.ed, .int .i64 e.f.bk, .int .i64 e.f.se, .string ⟨e.f.tx.toArray⟩, .string ⟨e.f.nm.toArray⟩, .int .i64 e.f.pt, .int .i64 e.f.cl, .int .i64 e.f.un] 28))
  have q2 : (w.alloc (.cells #[.int .i64 e.f.n, .int .i64 e.f.tm, .int .i64 e.f.kd, .int .i64 e.f.st, .string ⟨e.f.lg.toArray⟩, .int .i64 e.f.rv, .int .i64 e.f.bs, .string ⟨e.f.ti.toArray⟩, .string ⟨e.f.au.toArray⟩, .slice e.ta e.tn e.tc, .slice e.ba e.bn e.bc, .int .i64 e.f.lb.u, .slice e.la e.ln e.lc, .int .i64 e.f.lb.ap, .int .i64 e.f.lb.d, .int .i64 e.f.ed, .int .i64 e.f.bk, .int .i64 e.f.se, .string ⟨e.f.tx.toArray⟩, .string ⟨e.f.nm.toArray⟩, .int .i64 e.f.pt, .int .i64 e.f.cl, .int .i64 e.f.un] 28)).cell? ⟨w.heap.size, 2, none⟩ = some (.int .i64 e.f.kd) := F0.out.cell 2
  show Calls _ _ #[.agg #[.int .i64 e.f.n, .int .i64 e.f.tm, .int .i64 e.f.kd, .int .i64 e.f.st, .string ⟨e.f.lg.toArray⟩, .int .i64 e.f.rv, .int .i64 e.f.bs, .string ⟨e.f.ti.toArray⟩, .string ⟨e.f.au.toArray⟩, .slice e.ta e.tn e.tc, .slice e.ba e.bn e.bc, .int .i64 e.f.lb.u, .slice e.la e.ln e.lc, .int .i64 e.f.lb.ap, .int .i64 e.f.lb.d, .int .i64 e.f.ed, .int .i64 e.f.bk, .int .i64 e.f.se, .string ⟨e.f.tx.toArray⟩, .string ⟨e.f.nm.toArray⟩, .int .i64 e.f.pt, .int .i64 e.f.cl, .int .i64 e.f.un]] w _
  clear ho
  go_enter Tryz.func13, Tryz.ntmps13
  go_wp2_with fail
  refine (KO.out _).mono ?_
  rintro r w1 hr
  obtain ⟨rfl, bb⟩ : r = .returned (.tuple #[.slice none 0 0, .bool false]) ∧ Below (w.alloc (.cells #[.int .i64 e.f.n, .int .i64 e.f.tm, .int .i64 e.f.kd, .int .i64 e.f.st, .string ⟨e.f.lg.toArray⟩, .int .i64 e.f.rv, .int .i64 e.f.bs, .string ⟨e.f.ti.toArray⟩, .string ⟨e.f.au.toArray⟩, .slice e.ta e.tn e.tc, .slice e.ba e.bn e.bc, .int .i64 e.f.lb.u, .slice e.la e.ln e.lc, .int .i64 e.f.lb.ap, .int .i64 e.f.lb.d, .int .i64 e.f.ed, .int .i64 e.f.bk, .int .i64 e.f.se, .string ⟨e.f.tx.toArray⟩, .string ⟨e.f.nm.toArray⟩, .int .i64 e.f.pt, .int .i64 e.f.cl, .int .i64 e.f.un] 28)).heap.size (w.alloc (.cells #[.int .i64 e.f.n, .int .i64 e.f.tm, .int .i64 e.f.kd, .int .i64 e.f.st, .string ⟨e.f.lg.toArray⟩, .int .i64 e.f.rv, .int .i64 e.f.bs, .string ⟨e.f.ti.toArray⟩, .string ⟨e.f.au.toArray⟩, .slice e.ta e.tn e.tc, .slice e.ba e.bn e.bc, .int .i64 e.f.lb.u, .slice e.la e.ln e.lc, .int .i64 e.f.lb.ap, .int .i64 e.f.lb.d, .int .i64 e.f.ed, .int .i64 e.f.bk, .int .i64 e.f.se, .string ⟨e.f.tx.toArray⟩, .string ⟨e.f.nm.toArray⟩, .int .i64 e.f.pt, .int .i64 e.f.cl, .int .i64 e.f.un] 28)) w1 := hr
  have BW := Lib.hid (bel2 B0.out bb)
  clear bb q2 KO
  go_wp2_with fail
  go_ret
  exact ⟨ret_bool HV.out.symm, BW.out⟩
theorem valid5 (e : FE) (w : World) (h : FeOk w e) : Calls Tryz.prog 13 #[aggF e] w fun r w' => r = .returned (.bool (vF e.f)) ∧ Below w.heap.size w w' := by
  cases ho : ownF e.f.kd with
  | none => exact valid5_none e ho w
  | some l => exact valid5_some e l ho w h
end Go.Proofs.YtlhcckjfgpcohaaGreatDoor
