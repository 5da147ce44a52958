/- Package fact: copied. Package fact: detached and Redact. Package fact: Redact. The law's fixed examples. -/
import Derived.Test.YtlhcckjfgpcohaaGreatDoorU1
import Derived.Test.YtlhcckjfgpcohaaGreatDoorBlkO
import Derived.Test.YtlhcckjfgpcohaaGreatDoorU3
import Derived.Test.YtlhcckjfgpcohaaGreatDoorU4
import Derived.Deep.RegionHeld3
import Derived.Test.YtlhcckjfgpcohaaGreatDoorU2
namespace Go.Proofs.YtlhcckjfgpcohaaGreatDoor
open Go.RowKit
set_option maxRecDepth 100000
set_option linter.unusedSimpArgs false
set_option linter.unusedVariables false
theorem strInfo : (Tryz.prog.info? 9).map (fun i => (i.zero, i.size, i.bytes)) = some (some (.string ⟨#[]⟩), 1, 16) := by kernel_rfl
theorem append_none {P : Program} (w : World) (t ty e : TypeId) (i : TypeInfo) (size : Nat) (ht : P.underlying t = some (.slice e)) (hi : P.info? e = some i) (base : Nat)
    (v : Value) (n : Nat) (xs : List Value) (hown : w.ownsRow base e size v n xs) (c : Nat) : (Builtin.append_ #[t, t] ty #[v, .slice none 0 c]).run P w = .ok v w := by
  rcases hown.2 with ⟨rfl, rfl⟩ | ⟨g, cap, cur, rfl, _, _, hnc, _⟩
  · simp [Builtin.append_, run_underlying ht, sizeOf, typeInfo, hi, Builtin.lenOf, Builtin.firstCells]
  · simp [Builtin.append_, run_underlying ht, sizeOf, typeInfo, hi, Builtin.lenOf, Builtin.firstCells, hnc, storeCells]
theorem flat9_get : ∀ (es : List BE) (m : Nat) (u : Value), (es.flatMap elB)[m]? = some u → ∃ k j e, m = k * 9 + j ∧ es[k]? = some e ∧ (elB e)[j]? = some u
  | [], m, u, h => by simp at h
  | x :: es, m, u, h => by
    have h9 : (elB x).length = 9 := by simp [elB]
    rw [List.flatMap_cons] at h
    by_cases hm : m < 9
    · rw [List.getElem?_append_left (by omega)] at h
      exact ⟨0, m, x, by omega, rfl, h⟩
    · rw [List.getElem?_append_right (by omega)] at h
      obtain ⟨k, j, e', e, h1, h2⟩ := flat9_get es _ u h
      rw [h9] at e
      exact ⟨k + 1, j, e', by omega, by simpa using h1, h2⟩
/-- append of a slice of values of one cell each to nil. -/
theorem append_vals (w : World) (st et : TypeId) (i0 : TypeInfo) (z : Value) (sz by0 : Nat) (hsz : 0 < sz) (hu : Tryz.prog.underlying st = some (.slice et)) (hi : Tryz.prog.info? et = some i0) (hz0 : i0.zero = some z) (hz1 : i0.size = sz) (hz2 : i0.bytes = by0) (hzs : z.cells.size = sz) (a : Option Addr) (m c : Nat) (vs : List Value)
    (hl : vs.length = m * sz) (ha : m = 0 ∨ ∃ b off, a = some ⟨b, off, none⟩ ∧ ∀ j v, vs[j]? = some v → w.cell? ⟨b, off + j, none⟩ = some v) (h1 : ∀ v ∈ vs, v.oneCell' = true) (h63 : m ≤ maxLen) (hb : m * by0 ≤ 140737488355328) :
    ∃ a' c' w', (Builtin.append_ #[st, st] st #[.slice none 0 0, .slice a m c]).run Tryz.prog w = .ok (.slice a' m c') w' ∧ w'.ownsRow w.heap.size et sz (.slice a' m c') m vs ∧ Below w.heap.size w w' := by
  have hnil := World.ownsRow_nil w w.heap.size et sz
  rcases a with _ | ad
  · have hm : m = 0 := by
      rcases ha with h0 | ⟨b, off, e, _⟩
      · exact h0
      · cases e
    subst hm
    have hzn : vs = [] := List.eq_nil_of_length_eq_zero (by simpa using hl)
    subst hzn
    exact ⟨none, 0, w, append_none w st st et i0 sz hu hi w.heap.size (.slice none 0 0) 0 [] hnil c, hnil, Below.refl _ _⟩
  · obtain ⟨v', w', hr, h2, h3, -, -⟩ := run_append_own_at (P := Tryz.prog) w w.heap.size st st et i0 z sz by0 hu hi hz0 hz1 hz2 hzs hsz (.slice none 0 0) 0 [] hnil ad m c vs hl (fun j u hj => by
      rcases ha with h0 | ⟨b, off, e, hc⟩
      · subst h0
        have hv0 : vs = [] := List.eq_nil_of_length_eq_zero (by simpa using hl)
        rw [hv0] at hj
        simp at hj
      · injection e with e
        subst e
        rw [add_at]
        exact hc j u hj) h1 (by omega) (by rw [Nat.zero_add]; exact hb) (Nat.le_refl _)
    rw [Nat.zero_add, List.nil_append] at h2
    obtain ⟨a', c', rfl⟩ := own_slice h2
    exact ⟨a', c', w', hr, h2, (Below.refl _ _).grown h3 (Nat.le_refl _) (fun k hk => by cases hk)⟩
theorem copiedI (a : Option Addr) (n c : Nat) (zs : List Int) (w : World) (h : IsInts .i64 w a n c zs) (hn : n ≤ 1000000) :
    Calls Tryz.prog 61 #[.slice a n c] w fun r w' => ∃ a' c', r = .returned (.slice a' n c') ∧ w'.ownsRow w.heap.size 3 1 (.slice a' n c') n (zs.map (Value.int .i64)) ∧ Below w.heap.size w w' := by
  obtain ⟨i0, hi, hz0, hz1, hz2⟩ := info_parts intInfo
  obtain ⟨a', c', w', hr, ho, hb⟩ := append_vals w 24 3 i0 (.int .i64 0) 1 8 (by decide) Tryz.underlying24 hi hz0 hz1 hz2 (by rfl) a n c (zs.map (Value.int .i64)) (by rw [List.length_map, Nat.mul_one]; exact h.1) (h.2.2.2.2.imp id (fun ⟨b, off, e, hc⟩ => ⟨b, off, e, fun j v hj => by
    rw [List.getElem?_map, Option.map_eq_some_iff] at hj
    obtain ⟨z, hz, rfl⟩ := hj
    have hk := (List.getElem?_eq_some_iff.1 hz)
    rw [hc j (by rw [← h.1]; exact hk.1)]
    simp [List.getD, hz]⟩)) (fun v hv => by obtain ⟨z, _, rfl⟩ := List.mem_map.1 hv; rfl) (by unfold maxLen; omega) (by omega)
  have HR := Lib.hid hr
  have HO := Lib.hid ho
  have HB := Lib.hid hb
  clear hr ho hb h
  go_enter Tryz.func61, Tryz.ntmps61
  go_wp2_with (at_builtin; refine Lib.wpList_append_run _ rfl _ _ 24 24 rfl _ _ rfl rfl _ _ HR.out ?_)
  go_wp2
  go_ret
  exact ⟨a', c', rfl, HO.out, HB.out⟩
theorem copiedS (a : Option Addr) (n c : Nat) (zs : List (List UInt8)) (w : World) (h : IsTp w a n c zs) (hn : n ≤ 1000000) :
    Calls Tryz.prog 60 #[.slice a n c] w fun r w' => ∃ a' c', r = .returned (.slice a' n c') ∧ w'.ownsRow w.heap.size 9 1 (.slice a' n c') n (zs.map (fun s => Value.string ⟨s.toArray⟩)) ∧ Below w.heap.size w w' := by
  obtain ⟨i0, hi, hz0, hz1, hz2⟩ := info_parts strInfo
  obtain ⟨a', c', w', hr, ho, hb⟩ := append_vals w 22 9 i0 (.string ⟨#[]⟩) 1 16 (by decide) Tryz.underlying22 hi hz0 hz1 hz2 (by rfl) a n c (zs.map (fun s => Value.string ⟨s.toArray⟩)) (by rw [List.length_map, Nat.mul_one]; exact h.1) (h.2.2.2.2.imp id (fun ⟨b, off, e, hc⟩ => ⟨b, off, e, fun j v hj => by
    rw [List.getElem?_map, Option.map_eq_some_iff] at hj
    obtain ⟨z, hz, rfl⟩ := hj
    exact hc j z hz⟩)) (fun v hv => by obtain ⟨z, _, rfl⟩ := List.mem_map.1 hv; rfl) (by unfold maxLen; omega) (by omega)
  have HR := Lib.hid hr
  have HO := Lib.hid ho
  have HB := Lib.hid hb
  clear hr ho hb h
  go_enter Tryz.func60, Tryz.ntmps60
  go_wp2_with (at_builtin; refine Lib.wpList_append_run _ rfl _ _ 22 22 rfl _ _ rfl rfl _ _ HR.out ?_)
  go_wp2
  go_ret
  exact ⟨a', c', rfl, HO.out, HB.out⟩
theorem copiedB (a : Option Addr) (n c : Nat) (zs : List BE) (w : World) (h : IsBlks w a n c zs) (hn : n ≤ 1000000) :
    Calls Tryz.prog 62 #[.slice a n c] w fun r w' => ∃ a' c', r = .returned (.slice a' n c') ∧ w'.ownsRow w.heap.size 49 9 (.slice a' n c') n (zs.flatMap elB) ∧ Below w.heap.size w w' := by
  obtain ⟨i0, hi, hz0, hz1, hz2⟩ := info_parts blkInfo
  obtain ⟨a', c', w', hr, ho, hb⟩ := append_vals w 23 49 i0 _ 9 96 (by decide) Tryz.underlying23 hi hz0 hz1 hz2 (by rfl) a n c (zs.flatMap elB) (by rw [flat9_len]; exact congrArg (· * 9) h.1) (h.2.2.2.2.imp id (fun ⟨b, off, e, hc⟩ => ⟨b, off, e, fun j v hj => by
    obtain ⟨k, i, x, rfl, h1, h2⟩ := flat9_get _ _ _ hj
    rw [← Nat.add_assoc]
    exact hc k x h1 i v h2⟩)) (fun v hv => by obtain ⟨z, _, hz⟩ := List.mem_flatMap.1 hv; exact elB_cell _ v hz) (by unfold maxLen; omega) (by omega)
  have HR := Lib.hid hr
  have HO := Lib.hid ho
  have HB := Lib.hid hb
  clear hr ho hb h
  go_enter Tryz.func62, Tryz.ntmps62
  go_wp2_with (at_builtin; refine Lib.wpList_append_run _ rfl _ _ 23 23 rfl _ _ rfl rfl _ _ HR.out ?_)
  go_wp2
  go_ret
  exact ⟨a', c', rfl, HO.out, HB.out⟩
end Go.Proofs.YtlhcckjfgpcohaaGreatDoor
namespace Go.Proofs.YtlhcckjfgpcohaaGreatDoor
open Go.RowKit Go.MapKept
set_option maxRecDepth 100000
set_option linter.unusedSimpArgs false
set_option linter.unusedVariables false
theorem flat9_set : ∀ (es : List BE) (k : Nat) (x : BE) (a : Option Addr) (n c : Nat), es[k]? = some x → (es.set k (x.1, a, n, c)).flatMap elB = (es.flatMap elB).set (k * 9 + 6) (.slice a n c)
  | [], k, x, a, n, c, h => by simp at h
  | y :: es, 0, x, a, n, c, h => by
    simp only [List.getElem?_cons_zero, Option.some.injEq] at h
    subst h
    rw [List.set_cons_zero, List.flatMap_cons, List.flatMap_cons, List.set_append_left _ _ (by simp [elB])]
    rfl
  | y :: es, k + 1, x, a, n, c, h => by
    have h9 : (elB y).length = 9 := by simp [elB]
    rw [List.set_cons_succ, List.flatMap_cons, List.flatMap_cons, List.set_append_right _ _ (by omega), flat9_set es k x a n c (by simpa using h), h9]
    congr 2
    omega
theorem own_set {w : World} {base : Nat} {e : TypeId} {size g n c j : Nat} {xs : List Value} (h : w.ownsRow base e size (.slice (some ⟨g, 0, none⟩) n c) n xs) (u : Value) : (w.setCell ⟨g, j, none⟩ u).ownsRow base e size (.slice (some ⟨g, 0, none⟩) n c) n (xs.set j u) := by
  obtain ⟨h1, ⟨h2, _⟩ | ⟨g', cap, cur, h2, h3, h4, h5, h6, h7, h8⟩⟩ := h
  · cases h2
  · cases h2
    refine ⟨by simpa using h1, .inr ⟨g, c, cur.setIfInBounds j u, rfl, h3, Joins.block_setCell h4 u, h5, h6, by simpa using h7, ?_⟩⟩
    rw [Array.toList_setIfInBounds, List.take_set, h8]
theorem own_at {w : World} {base : Nat} {e : TypeId} {size g n c : Nat} {xs : List Value} (h : w.ownsRow base e size (.slice (some ⟨g, 0, none⟩) n c) n xs) : base ≤ g ∧ (∃ cur, w.heap[g]? = some (.cells cur e (0, 0))) ∧ n ≤ c ∧ c ≤ maxLen ∧ ∀ (j : Nat) (u : Value), xs[j]? = some u → w.cell? ⟨g, j, none⟩ = some u := by
  have hc := h.cells (g := g) rfl
  obtain ⟨h1, ⟨h2, _⟩ | ⟨g', cap, cur, h2, h3, h4, h5, h6, h7, h8⟩⟩ := h
  · cases h2
  · cases h2
    refine ⟨h3, ⟨cur, h4⟩, h5, h6, fun j u hu => ?_⟩
    have := hc j u hu
    rwa [add_at, Nat.zero_add] at this
theorem tp_of_own6 {w : World} {base : Nat} {a : Option Addr} {n c : Nat} {l : List (List UInt8)} (h : w.ownsRow base 9 1 (.slice a n c) n (l.map (fun s => Value.string ⟨s.toArray⟩))) (hz : ∀ z ∈ l, z.length ≤ maxLen) : IsTp w a n c l := by
  have hl := h.1
  rw [List.length_map, Nat.mul_one] at hl
  rcases h.2 with ⟨hv, h0⟩ | ⟨g, cap, cur, hv, _, _, hnc, hm, _⟩
  · cases hv
    exact ⟨hl, Nat.le_refl _, by unfold maxLen; omega, hz, .inl rfl⟩
  · have hc := h.cells (g := g) (by cases hv; rfl)
    cases hv
    refine ⟨hl, hnc, hm, hz, .inr ⟨g, 0, rfl, fun i s hs => ?_⟩⟩
    have := hc i (.string ⟨s.toArray⟩) (by rw [List.getElem?_map, hs]; rfl)
    rw [add_at] at this
    simpa using this
theorem own_besides {w : World} {base : Nat} {e t : TypeId} {size : Nat} {v : Value} {n g : Nat} {xs : List Value} {cur : Array Value} {fr : Nat × Nat} (h : w.ownsRow base e size v n xs) (hg : w.heap[g]? = some (.cells cur t fr)) (hne : e ≠ t) (j : Nat) (u : Value) : (w.setCell ⟨g, j, none⟩ u).ownsRow base e size v n xs := by
  refine ⟨h.1, h.2.imp id ?_⟩
  rintro ⟨g', cap, cur', h1, h2, h3, h4⟩
  refine ⟨g', cap, cur', h1, h2, ?_, h4⟩
  rw [Below.heap_setCell _ _ _ _ (fun q => ?_)]
  · exact h3
  · subst q
    rw [h3] at hg
    exact hne (Obj.cells.inj (Option.some.inj hg)).2.1
theorem set_self6 {α : Type} {l : List α} {k : Nat} {v : α} (h : l[k]? = some v) : l.set k v = l := by
  obtain ⟨hk, rfl⟩ := List.getElem?_eq_some_iff.1 h
  exact List.set_getElem_self hk
/-- What a copy of a fact may be. -/
structure FeSm (e : FE) : Prop where
  n : e.tn ≤ 1000000 ∧ e.bn ≤ 1000000 ∧ e.ln ≤ 1000000
  b : ∀ b ∈ e.f.bl, b.lb.af.length ≤ 1000000 ∧ b.tx.length ≤ 65536
set_option maxHeartbeats 16000000 in
theorem detached5 (e : FE) (w : World) (h : FeOk w e) (hs : FeSm e) : Calls Tryz.prog 30 #[aggF e] w fun r w' => ∃ e', r = .returned (aggF e') ∧ e'.f = e.f ∧ FeIn w.heap.size w' e' ∧ Below w.heap.size w w' := by
  obtain ⟨f, ta, tn, tc, ba, bn, bc, la, ln, lc⟩ := e
  obtain ⟨h1, h2, h3, hints, hstrs⟩ := h
  obtain ⟨es, hes, hbl⟩ := h2
  obtain ⟨⟨n1, n2, n3⟩, hbs⟩ := hs
  simp only at h1 hes hbl h3 hints hstrs n1 n2 n3 hbs
  have HT := Lib.hid h1
  have HB := Lib.hid hbl
  have HL := Lib.hid h3
  have HES := Lib.hid hes
  have HBS := Lib.hid hbs
  have HIS := Lib.hid (And.intro hints hstrs)
  clear h1 h3 hbl hes hints hstrs hbs
  obtain ⟨Bf, hBf⟩ : ∃ Bf, Bf = w.heap.size := ⟨_, rfl⟩
  obtain ⟨W0, hW0⟩ : ∃ W0, W0 = ((w.alloc (.cells #[.int .i64 f.n, .int .i64 f.tm, .int .i64 f.kd, .int .i64 f.st, .string ⟨f.lg.toArray⟩, .int .i64 f.rv, .int .i64 f.bs, .string ⟨f.ti.toArray⟩, .string ⟨f.au.toArray⟩, .slice ta tn tc, .slice ba bn bc, .int .i64 f.lb.u, .slice la ln lc, .int .i64 f.lb.ap, .int .i64 f.lb.d, .int .i64 f.ed, .int .i64 f.bk, .int .i64 f.se, .string ⟨f.tx.toArray⟩, .string ⟨f.nm.toArray⟩, .int .i64 f.pt, .int .i64 f.cl, .int .i64 f.un] 28)).alloc (.cells #[.int .i64 0, .int .i64 0, .int .i64 0, .int .i64 0, .string ⟨#[]⟩, .int .i64 0, .int .i64 0, .string ⟨#[]⟩, .string ⟨#[]⟩, .slice none 0 0, .slice none 0 0, .int .i64 0, .slice none 0 0, .int .i64 0, .int .i64 0, .int .i64 0, .int .i64 0, .int .i64 0, .string ⟨#[]⟩, .string ⟨#[]⟩, .int .i64 0, .int .i64 0, .int .i64 0] 28)) := ⟨_, rfl⟩
  have F0 : Hid (FcAt W0 Bf ⟨f, ta, tn, tc, ba, bn, bc, la, ln, lc⟩) := Lib.hid (by
    rw [hW0, hBf]
    exact blockOver (below_alloc _ _) (heap_alloc_new w _))
  have R0 : Hid (FcAt W0 (Bf + 1) zE) := Lib.hid (by
    rw [hW0, hBf]
    have := heap_alloc_new (w.alloc (.cells #[.int .i64 f.n, .int .i64 f.tm, .int .i64 f.kd, .int .i64 f.st, .string ⟨f.lg.toArray⟩, .int .i64 f.rv, .int .i64 f.bs, .string ⟨f.ti.toArray⟩, .string ⟨f.au.toArray⟩, .slice ta tn tc, .slice ba bn bc, .int .i64 f.lb.u, .slice la ln lc, .int .i64 f.lb.ap, .int .i64 f.lb.d, .int .i64 f.ed, .int .i64 f.bk, .int .i64 f.se, .string ⟨f.tx.toArray⟩, .string ⟨f.nm.toArray⟩, .int .i64 f.pt, .int .i64 f.cl, .int .i64 f.un] 28)) (.cells #[.int .i64 0, .int .i64 0, .int .i64 0, .int .i64 0, .string ⟨#[]⟩, .int .i64 0, .int .i64 0, .string ⟨#[]⟩, .string ⟨#[]⟩, .slice none 0 0, .slice none 0 0, .int .i64 0, .slice none 0 0, .int .i64 0, .int .i64 0, .int .i64 0, .int .i64 0, .int .i64 0, .string ⟨#[]⟩, .string ⟨#[]⟩, .int .i64 0, .int .i64 0, .int .i64 0] 28)
    rw [show (w.alloc (.cells #[.int .i64 f.n, .int .i64 f.tm, .int .i64 f.kd, .int .i64 f.st, .string ⟨f.lg.toArray⟩, .int .i64 f.rv, .int .i64 f.bs, .string ⟨f.ti.toArray⟩, .string ⟨f.au.toArray⟩, .slice ta tn tc, .slice ba bn bc, .int .i64 f.lb.u, .slice la ln lc, .int .i64 f.lb.ap, .int .i64 f.lb.d, .int .i64 f.ed, .int .i64 f.bk, .int .i64 f.se, .string ⟨f.tx.toArray⟩, .string ⟨f.nm.toArray⟩, .int .i64 f.pt, .int .i64 f.cl, .int .i64 f.un] 28)).heap.size = w.heap.size + 1 by simp] at this
    exact this)
  have B0 : Hid (Below Bf w W0) := Lib.hid (by rw [hW0, hBf]; exact bel2 (below_alloc w _) (below_alloc _ _))
  have hsz0 : Hid (W0.heap.size = Bf + 2) := Lib.hid (by rw [hW0, hBf]; simp)
  have HW0 := Lib.hid hW0
  have HBF := Lib.hid hBf
  have hBs : w.heap.size = Bf := hBf.symm
  have KT := Lib.hid (fun W (hW : Below w.heap.size w W) => copiedS ta tn tc f.tp W (HT.out.over hW) n1)
  have KI := Lib.hid (fun W (hW : Below w.heap.size w W) => copiedI la ln lc f.lb.af W (HL.out.1.over hW) n3)
  have KB := Lib.hid (fun W (hW : Below w.heap.size w W) => copiedB ba bn bc es W (HB.out.over hW) n2)
  rw [hBs] at KT KI KB
  clear hW0 hBf
  show Calls _ _ #[.agg #[.int .i64 f.n, .int .i64 f.tm, .int .i64 f.kd, .int .i64 f.st, .string ⟨f.lg.toArray⟩, .int .i64 f.rv, .int .i64 f.bs, .string ⟨f.ti.toArray⟩, .string ⟨f.au.toArray⟩, .slice ta tn tc, .slice ba bn bc, .int .i64 f.lb.u, .slice la ln lc, .int .i64 f.lb.ap, .int .i64 f.lb.d, .int .i64 f.ed, .int .i64 f.bk, .int .i64 f.se, .string ⟨f.tx.toArray⟩, .string ⟨f.nm.toArray⟩, .int .i64 f.pt, .int .i64 f.cl, .int .i64 f.un]] w _
  go_enter Tryz.func30, Tryz.ntmps30
  go_wp2_with fail
  rw [← HW0.out]
  refine (KT.out W0 B0.out).mono ?_
  rintro r w1 ⟨ta2, tc2, rfl, o1, b1⟩
  have F1 := Lib.hid (F0.out.over b1)
  have R1 := Lib.hid (R0.out.over b1)
  have O1 := Lib.hid (own_mono o1 (show Bf + 2 ≤ W0.heap.size by rw [hsz0.out]; omega))
  have B1 : Hid (Below Bf w w1) := Lib.hid (B0.out.trans (b1.mono (by rw [hsz0.out]; omega)))
  have s1 : Bf + 2 ≤ w1.heap.size := by have := b1.size; have := hsz0.out; omega
  have c9 : w1.cell? ⟨Bf, 9, none⟩ = some (.slice ta tn tc) := F1.out.cell 9
  have f9 := Joins.unfrozen_of_block F1.out 9
  have c12 : w1.cell? ⟨Bf, 12, none⟩ = some (.slice la ln lc) := F1.out.cell 12
  clear o1 b1 KT
  go_wp2_with fail
  have F1' := Lib.hid (F1.out.set (e' := ⟨f, ta2, tn, tc2, ba, bn, bc, la, ln, lc⟩) 9 (.slice ta2 tn tc2) rfl)
  have R1' := Lib.hid (R1.out.other (g := Bf) (o := 9) (v := .slice ta2 tn tc2) (by omega))
  have O1' := Lib.hid (setNe (a := w) (g := Bf) (o := 9) (v := .slice ta2 tn tc2) O1.out (by omega))
  have B1' : Hid (Below Bf w (w1.setCell ⟨Bf, 9, none⟩ (.slice ta2 tn tc2))) := Lib.hid (B1.out.setCell (p := ⟨Bf, 9, none⟩) (Nat.le_refl _) _)
  have s1' : Bf + 2 ≤ (w1.setCell ⟨Bf, 9, none⟩ (.slice ta2 tn tc2)).heap.size := by have := ((Keeps.refl Bf w1).setCell 9 (.slice ta2 tn tc2)).size; omega
  clear F1 R1 O1 B1 s1 c9 f9 c12
  generalize w1.setCell ⟨Bf, 9, none⟩ (.slice ta2 tn tc2) = V1 at F1' R1' O1' B1' s1' ⊢
  refine (KI.out V1 B1'.out).mono ?_
  rintro r w2 ⟨la2, lc2, rfl, o2, b2⟩
  have F2 := Lib.hid (F1'.out.over b2)
  have R2 := Lib.hid (R1'.out.over b2)
  have O2 := Lib.hid (And.intro (own_over O1'.out b2) (own_mono o2 s1'))
  have B2 : Hid (Below Bf w w2) := Lib.hid (B1'.out.trans (b2.mono (by omega)))
  have s2 : Bf + 2 ≤ w2.heap.size := by have := b2.size; omega
  have c10 : w2.cell? ⟨Bf, 10, none⟩ = some (.slice ba bn bc) := F2.out.cell 10
  have c12 : w2.cell? ⟨Bf, 12, none⟩ = some (.slice la ln lc) := F2.out.cell 12
  have f12 := Joins.unfrozen_of_block F2.out 12
  clear o2 b2 KI F1' R1' O1' B1' s1'
  go_wp2_with fail
  have F2' := Lib.hid (F2.out.set (e' := ⟨f, ta2, tn, tc2, ba, bn, bc, la2, ln, lc2⟩) 12 (.slice la2 ln lc2) rfl)
  have R2' := Lib.hid (R2.out.other (g := Bf) (o := 12) (v := .slice la2 ln lc2) (by omega))
  have O2' := Lib.hid (And.intro (setNe (a := w) (g := Bf) (o := 12) (v := .slice la2 ln lc2) O2.out.1 (by omega)) (setNe (a := w) (g := Bf) (o := 12) (v := .slice la2 ln lc2) O2.out.2 (by omega)))
  have B2' : Hid (Below Bf w (w2.setCell ⟨Bf, 12, none⟩ (.slice la2 ln lc2))) := Lib.hid (B2.out.setCell (p := ⟨Bf, 12, none⟩) (Nat.le_refl _) _)
  have s2' : Bf + 2 ≤ (w2.setCell ⟨Bf, 12, none⟩ (.slice la2 ln lc2)).heap.size := by have := ((Keeps.refl Bf w2).setCell 12 (.slice la2 ln lc2)).size; omega
  clear F2 R2 O2 B2 s2 c10 c12 f12
  generalize w2.setCell ⟨Bf, 12, none⟩ (.slice la2 ln lc2) = V2 at F2' R2' O2' B2' s2' ⊢
  refine (KB.out V2 B2'.out).mono ?_
  rintro r w3 ⟨ba2, bc2, rfl, o3, b3⟩
  have F3 := Lib.hid (F2'.out.over b3)
  have R3 := Lib.hid (R2'.out.over b3)
  have O3 := Lib.hid (And.intro (own_over O2'.out.1 b3) (And.intro (own_over O2'.out.2 b3) (own_mono o3 s2')))
  have B3 : Hid (Below Bf w w3) := Lib.hid (B2'.out.trans (b3.mono (by omega)))
  have c10 : w3.cell? ⟨Bf, 10, none⟩ = some (.slice ba bn bc) := F3.out.cell 10
  have f10 := Joins.unfrozen_of_block F3.out 10
  clear o3 b3 KB F2' R2' O2' B2' s2'
  go_wp2_with fail
  have F3' := Lib.hid (F3.out.set (e' := ⟨f, ta2, tn, tc2, ba2, bn, bc2, la2, ln, lc2⟩) 10 (.slice ba2 bn bc2) rfl)
  have R3' := Lib.hid (R3.out.other (g := Bf) (o := 10) (v := .slice ba2 bn bc2) (by omega))
  have O3' := Lib.hid (And.intro (setNe (a := w) (g := Bf) (o := 10) (v := .slice ba2 bn bc2) O3.out.1 (by omega)) (And.intro (setNe (a := w) (g := Bf) (o := 10) (v := .slice ba2 bn bc2) O3.out.2.1 (by omega)) (setNe (a := w) (g := Bf) (o := 10) (v := .slice ba2 bn bc2) O3.out.2.2 (by omega))))
  have B3' : Hid (Below Bf w (w3.setCell ⟨Bf, 10, none⟩ (.slice ba2 bn bc2))) := Lib.hid (B3.out.setCell (p := ⟨Bf, 10, none⟩) (Nat.le_refl _) _)
  clear F3 R3 O3 B3 c10 f10
  generalize w3.setCell ⟨Bf, 10, none⟩ (.slice ba2 bn bc2) = V3 at F3' R3' O3' B3' ⊢
  have hlen := Lib.hid HB.out.1
  have hbn : bn ≤ 1000000 := n2
  go_loopw [21, 3] (fun i _ wr => ∃ (k : Nat) (ms : List BE), k ≤ bn ∧ i = .int .i64 k ∧ Hid (FcAt wr Bf ⟨f, ta2, tn, tc2, ba2, bn, bc2, la2, ln, lc2⟩) ∧ Hid (FcAt wr (Bf + 1) zE) ∧ Hid (blks ms = blks es) ∧ Hid (∀ (j : Nat) (x : BE), j < k → ms[j]? = some x → BeIn (Bf + 2) wr x) ∧ Hid (∀ j, k ≤ j → ms[j]? = es[j]?) ∧
    Hid (wr.ownsRow (Bf + 2) 9 1 (.slice ta2 tn tc2) tn (f.tp.map (fun s => Value.string ⟨s.toArray⟩)) ∧ wr.ownsRow (Bf + 2) 3 1 (.slice la2 ln lc2) ln (f.lb.af.map (Value.int .i64)) ∧ wr.ownsRow (Bf + 2) 49 9 (.slice ba2 bn bc2) bn (ms.flatMap elB)) ∧ Hid (Below Bf w wr)) (fun i _ _ => bn - (intOf i).toNat)
  case atStart => exact ⟨0, es, Nat.zero_le _, rfl, F3', R3', Lib.hid rfl, Lib.hid (fun j x hj => absurd hj (Nat.not_lt_zero _)), Lib.hid (fun _ _ => rfl), O3', B3'⟩
  case round =>
    clear F3' R3' O3' B3'
    obtain ⟨k, ms, hk, rfl, z1, z2, z3, z4, z5, z6, z7⟩ := hrel
    have cb : wr.cell? ⟨Bf, 10, none⟩ = some (.slice ba2 bn bc2) := z1.out.cell 10
    by_cases hlt : k < bn
    · have hml : ms.length = bn := by have := congrArg List.length z3.out; simp only [blks, List.length_map] at this; rw [this]; exact hlen.out
      have hx0 : ms[k]? = some (ms[k]'(by omega)) := List.getElem?_eq_getElem _
      have hxe := z5.out k (Nat.le_refl _)
      generalize ms[k]'(by omega) = x at hx0
      have HX := Lib.hid hx0
      have hxe' : es[k]? = some x := by rw [← hxe]; exact hx0
      have hok := HB.out.2.2.2.1 x (List.mem_of_getElem? hxe')
      obtain ⟨hxl, hxt⟩ := HBS.out x.1 (by rw [← HES.out]; exact List.mem_map.2 ⟨x, List.mem_of_getElem? hxe', rfl⟩)
      have HOK := Lib.hid hok
      have HXT := Lib.hid hxt
      have hxn : x.2.2.1 ≤ 1000000 := by have := hok.1.1.1; omega
      obtain ⟨g, rfl⟩ : ∃ g, ba2 = some ⟨g, 0, none⟩ := by
        rcases z6.out.2.2.2 with ⟨hv, h0⟩ | ⟨g, _, _, hv, _⟩
        · omega
        · cases hv; exact ⟨g, rfl⟩
      obtain ⟨hgB, ⟨cur, hcur⟩, hgc, hgm, hcell⟩ := own_at z6.out.2.2
      unfold maxLen at hgm
      have c6 : wr.cell? ⟨g, k * 9 + 6, none⟩ = some (.slice x.2.1 x.2.2.1 x.2.2.2) := hcell _ _ (flat9_at ms k x hx0 6 _ rfl)
      have KC := Lib.hid (copiedI x.2.1 x.2.2.1 x.2.2.2 x.1.lb.af wr.drew (((hok.1.1.over (show Below w.heap.size w wr by rw [hBs]; exact z7.out)).over (below_drew wr))) hxn)
      have HCUR := Lib.hid hcur
      have hgBf : g ≠ Bf := by omega
      have hltn : (k : Int) < bn := by omega
      have cbd : wr.drew.cell? ⟨Bf, 10, none⟩ = some (.slice (some ⟨g, 0, none⟩) bn bc2) := cb
      have c6d : wr.drew.cell? ⟨g, k * 9 + 6, none⟩ = some (.slice x.2.1 x.2.2.1 x.2.2.2) := c6
      clear hcell hcur hx0 hxe hxe' hok hxl hxt
      go_wp2_with fail
      refine wp_region_held_drew (S := fun w' => w'.cell? ⟨Bf, 10, none⟩ = some (.slice (some ⟨g, 0, none⟩) bn bc2)) (by kernel_rfl) ?_ (fun h0 => ?_)
      · exact cbd
      refine wpAnyH_take (i := 0) (v := ?_) rfl (by kernel_rfl) (by kernel_rfl) (by kernel_rfl) (fun _ _ _ h => h) (Or.inl ⟨by rfl, ?_⟩) h0 ?_
      rotate_left
      · (intro w hSw; (try dsimp only at hSw); go_simp); all_goals (with_reducible rfl)
      try simp only [List.getElem_toArray, List.getElem_cons_succ, List.getElem_cons_zero, Act.put, List.setIfInBounds_toArray, List.set_cons_zero, List.set_cons_succ]
      refine wpAnyH_take (i := 1) (v := ?_) rfl (by kernel_rfl) (by kernel_rfl) (by kernel_rfl) (fun _ _ _ h => h) (Or.inl ⟨by rfl, ?_⟩) h0 ?_
      rotate_left
      · (intro w hSw; (try dsimp only at hSw); go_simp); all_goals (with_reducible rfl)
      try simp only [List.getElem_toArray, List.getElem_cons_succ, List.getElem_cons_zero, Act.put, List.setIfInBounds_toArray, List.set_cons_zero, List.set_cons_succ]
      refine wpAnyH_take (i := 2) (v := ?_) rfl (by kernel_rfl) (by kernel_rfl) (by kernel_rfl) (fun _ _ _ h => h) (Or.inl ⟨by rfl, ?_⟩) h0 ?_
      rotate_left
      · (intro w hSw; (try dsimp only at hSw); go_simp); all_goals (with_reducible rfl)
      try simp only [List.getElem_toArray, List.getElem_cons_succ, List.getElem_cons_zero, Act.put, List.setIfInBounds_toArray, List.set_cons_zero, List.set_cons_succ]
      refine wpAnyH_take (i := 3) (v := ?_) rfl (by kernel_rfl) (by kernel_rfl) (by kernel_rfl) (fun _ _ _ h => h) (Or.inl ⟨by rfl, ?_⟩) h0 ?_
      rotate_left
      · (intro w hSw; (try dsimp only at hSw); go_simp); all_goals (with_reducible rfl)
      try simp only [List.getElem_toArray, List.getElem_cons_succ, List.getElem_cons_zero, Act.put, List.setIfInBounds_toArray, List.set_cons_zero, List.set_cons_succ]
      refine wpAnyH_take (i := 4) (v := ?_) rfl (by kernel_rfl) (by kernel_rfl) (by kernel_rfl) (fun _ _ _ h => h) (Or.inl ⟨by rfl, ?_⟩) h0 ?_
      rotate_left
      · (intro w hSw; (try dsimp only at hSw); go_simp); all_goals (with_reducible rfl)
      try simp only [List.getElem_toArray, List.getElem_cons_succ, List.getElem_cons_zero, Act.put, List.setIfInBounds_toArray, List.set_cons_zero, List.set_cons_succ]
      refine wpAnyH_take (i := 5) (v := ?_) rfl (by kernel_rfl) (by kernel_rfl) (by kernel_rfl) (fun _ _ _ h => h) (Or.inl ⟨by rfl, ?_⟩) h0 ?_
      rotate_left
      · (intro w hSw; (try dsimp only at hSw); go_simp); all_goals (with_reducible rfl)
      try simp only [List.getElem_toArray, List.getElem_cons_succ, List.getElem_cons_zero, Act.put, List.setIfInBounds_toArray, List.set_cons_zero, List.set_cons_succ]
      refine wpAnyH_take (i := 6) (v := ?_) rfl (by kernel_rfl) (by kernel_rfl) (by kernel_rfl) (fun _ _ _ h => h) (Or.inl ⟨by rfl, ?_⟩) h0 ?_
      rotate_left
      · (intro w hSw; (try dsimp only at hSw); go_simp); all_goals (with_reducible rfl)
      try simp only [List.getElem_toArray, List.getElem_cons_succ, List.getElem_cons_zero, Act.put, List.setIfInBounds_toArray, List.set_cons_zero, List.set_cons_succ]
      refine wpAnyH_take (i := 7) (v := ?_) rfl (by kernel_rfl) (by kernel_rfl) (by kernel_rfl) (fun _ _ _ h => h) (Or.inl ⟨by rfl, ?_⟩) h0 ?_
      rotate_left
      · (intro w hSw; (try dsimp only at hSw); go_simp); all_goals (with_reducible rfl)
      try simp only [List.getElem_toArray, List.getElem_cons_succ, List.getElem_cons_zero, Act.put, List.setIfInBounds_toArray, List.set_cons_zero, List.set_cons_succ]
      refine wpAnyH_take (i := 8) (v := ?_) rfl (by kernel_rfl) (by kernel_rfl) (by kernel_rfl) (fun _ _ _ h => h) (Or.inl ⟨by rfl, ?_⟩) h0 ?_
      rotate_left
      · (intro w hSw; (try dsimp only at hSw); go_simp); all_goals (with_reducible rfl)
      try simp only [List.getElem_toArray, List.getElem_cons_succ, List.getElem_cons_zero, Act.put, List.setIfInBounds_toArray, List.set_cons_zero, List.set_cons_succ]
      refine wpAnyH_ready (rs := [9]) (by kernel_rfl) (by simp) ?_
      refine AllReadyH.cons rfl (fun K hK => ?_) AllReadyH.nil
      go_simp
      have bS := cbd
      refine hK.out _ _ ?_ (fun h1 => ?_)
      · exact bS
      clear hK K h0 bS
      try simp only [List.getElem_toArray, List.getElem_cons_succ, List.getElem_cons_zero, Act.put, List.setIfInBounds_toArray, List.set_cons_zero, List.set_cons_succ]
      refine wpAnyH_ready (rs := [10]) (by kernel_rfl) (by simp) ?_
      refine AllReadyH.cons rfl (fun K hK => ?_) AllReadyH.nil
      go_simp
      refine KC.out.mono ?_
      rintro r w4 ⟨a4, c4, rfl, o4, b4⟩
      have b4' := Lib.hid (bel2 (below_drew wr) b4)
      have O4 := Lib.hid (own_mono o4 (show Bf + 2 ≤ wr.drew.heap.size by have h1 := (Array.getElem?_eq_some_iff.1 z2.out).1; show Bf + 2 ≤ wr.heap.size; omega))
      have H4 := Lib.hid (blockOver b4'.out HCUR.out)
      have c64 : w4.cell? ⟨g, k * 9 + 6, none⟩ = some (.slice x.2.1 x.2.2.1 x.2.2.2) := cellOver b4'.out c6
      have f64 := Joins.unfrozen_of_block H4.out (k * 9 + 6)
      clear o4 b4 KC
      go_wp2_with fail
      have bS : w4.cell? ⟨Bf, 10, none⟩ = some (.slice (some ⟨g, 0, none⟩) bn bc2) := cellOver b4'.out cb
      refine hK.out _ _ ?_ (fun h2 => ?_)
      · exact bS
      clear hK K h1 bS
      try simp only [List.getElem_toArray, List.getElem_cons_succ, List.getElem_cons_zero, Act.put, List.setIfInBounds_toArray, List.set_cons_zero, List.set_cons_succ]
      refine wpAnyH_take (i := 11) (v := ?_) rfl (by kernel_rfl) (by kernel_rfl) (by kernel_rfl) (fun _ _ _ h => h) (Or.inl ⟨by rfl, ?_⟩) h2 ?_
      rotate_left
      · (intro w hSw; (try dsimp only at hSw); go_simp); all_goals (with_reducible rfl)
      try simp only [List.getElem_toArray, List.getElem_cons_succ, List.getElem_cons_zero, Act.put, List.setIfInBounds_toArray, List.set_cons_zero, List.set_cons_succ]
      refine wpAnyH_take (i := 12) (v := ?_) rfl (by kernel_rfl) (by kernel_rfl) (by kernel_rfl) (fun _ _ _ h => h) (Or.inl ⟨by rfl, ?_⟩) h2 ?_
      rotate_left
      · (intro w hSw; (try dsimp only at hSw); go_simp); all_goals (with_reducible rfl)
      try simp only [List.getElem_toArray, List.getElem_cons_succ, List.getElem_cons_zero, Act.put, List.setIfInBounds_toArray, List.set_cons_zero, List.set_cons_succ]
      refine wpAnyH_take (i := 13) (v := ?_) rfl (by kernel_rfl) (by kernel_rfl) (by kernel_rfl) (fun _ _ _ h => h) (Or.inl ⟨by rfl, ?_⟩) h2 ?_
      rotate_left
      · (intro w hSw; (try dsimp only at hSw); go_simp); all_goals (with_reducible rfl)
      try simp only [List.getElem_toArray, List.getElem_cons_succ, List.getElem_cons_zero, Act.put, List.setIfInBounds_toArray, List.set_cons_zero, List.set_cons_succ]
      refine wpAnyH_ready (rs := [14]) (by kernel_rfl) (by simp) ?_
      refine AllReadyH.cons rfl (fun K hK => ?_) AllReadyH.nil
      go_simp
      have bS : (w4.setCell ⟨g, k * 9 + 6, none⟩ (.slice a4 x.2.2.1 c4)).cell? ⟨Bf, 10, none⟩ = some (.slice (some ⟨g, 0, none⟩) bn bc2) := by
        rw [World.cell?_setCell_far _ _ _ _ (by show g ≠ Bf; omega)]
        exact cellOver b4'.out cb
      refine hK.out _ _ ?_ (fun h3 => ?_)
      · exact bS
      clear hK K h2 bS
      try simp only [List.getElem_toArray, List.getElem_cons_succ, List.getElem_cons_zero, Act.put, List.setIfInBounds_toArray, List.set_cons_zero, List.set_cons_succ]
      refine wpAnyH_done (by kernel_rfl) ?_ _
      clear h3
      have e6 : k * 9 + 5 + 1 = k * 9 + 6 := rfl
      have q1 : Hid (FcAt (w4.setCell ⟨g, k * 9 + 5 + 1, none⟩ (.slice a4 x.2.2.1 c4)) Bf ⟨f, ta2, tn, tc2, some ⟨g, 0, none⟩, bn, bc2, la2, ln, lc2⟩) := Lib.hid ((z1.out.over b4'.out).other (by omega))
      have q2 : Hid (FcAt (w4.setCell ⟨g, k * 9 + 5 + 1, none⟩ (.slice a4 x.2.2.1 c4)) (Bf + 1) zE) := Lib.hid ((z2.out.over b4'.out).other (by omega))
      have q3 : Hid (blks (ms.set k (x.1, a4, x.2.2.1, c4)) = blks es) := Lib.hid (by
        rw [← z3.out]
        unfold blks
        rw [List.map_set]
        exact set_self6 (by rw [List.getElem?_map, HX.out]; rfl))
      have q4 : Hid (∀ (j : Nat) (y : BE), j < k + 1 → (ms.set k (x.1, a4, x.2.2.1, c4))[j]? = some y → BeIn (Bf + 2) (w4.setCell ⟨g, k * 9 + 5 + 1, none⟩ (.slice a4 x.2.2.1 c4)) y) := Lib.hid (by
        intro j y hj hy
        by_cases hjk : k = j
        · subst hjk
          rw [List.getElem?_set_self (by omega)] at hy
          cases hy
          obtain ⟨⟨l1, l2, l3, l4⟩, l5, l6, l7, l8, l9⟩ := HOK.out
          exact ⟨⟨l6, l7, l8, l9, l2, l3, l4, HXT.out, fun z hz => wf64 (l1.2.2.2.1 z hz)⟩, own_besides O4.out H4.out (by decide) _ _⟩
        · rw [List.getElem?_set_ne hjk] at hy
          have h1 := z4.out j y (by omega) hy
          exact ⟨h1.1, own_besides (own_over h1.2 b4'.out) H4.out (by decide) _ _⟩)
      have q5 : Hid (∀ j, k + 1 ≤ j → (ms.set k (x.1, a4, x.2.2.1, c4))[j]? = es[j]?) := Lib.hid (by
        intro j hj
        rw [List.getElem?_set_ne (by omega)]
        exact z5.out j (by omega))
      have q6 := Lib.hid (And.intro (own_besides (own_over z6.out.1 b4'.out) H4.out (by decide) (k * 9 + 5 + 1) (.slice a4 x.2.2.1 c4)) (And.intro (own_besides (own_over z6.out.2.1 b4'.out) H4.out (by decide) (k * 9 + 5 + 1) (.slice a4 x.2.2.1 c4))
        (show (w4.setCell ⟨g, k * 9 + 5 + 1, none⟩ (.slice a4 x.2.2.1 c4)).ownsRow (Bf + 2) 49 9 (.slice (some ⟨g, 0, none⟩) bn bc2) bn ((ms.set k (x.1, a4, x.2.2.1, c4)).flatMap elB) by
          rw [flat9_set ms k x a4 x.2.2.1 c4 HX.out]
          exact own_set (own_over z6.out.2.2 b4'.out) _)))
      have q7 : Hid (Below Bf w (w4.setCell ⟨g, k * 9 + 5 + 1, none⟩ (.slice a4 x.2.2.1 c4))) := Lib.hid ((z7.out.trans (b4'.out.mono (by have := z7.out.size; omega))).setCell (p := ⟨g, k * 9 + 5 + 1, none⟩) (by show Bf ≤ g; omega) _)
      clear z1 z2 z3 z4 z5 z6 z7 cb cbd c6 c6d c64 f64 H4 O4 HOK HXT HCUR b4'
      go_wp2_with fail
      go_roundw
      case rel => exact ⟨k + 1, _, by omega, by go_num, q1, q2, q3, q4, q5, q6, q7⟩
      case measure => simp [intOf]; omega
    · obtain rfl : bn = k := by omega
      have GT := Lib.hid z2.out.there
      obtain ⟨e2, he2⟩ : ∃ e2 : FE, e2 = ⟨f, ta2, tn, tc2, ba2, bn, bc2, la2, ln, lc2⟩ := ⟨_, rfl⟩
      have GZ2 : Hid (FcAt wr Bf e2) := by rw [he2]; exact z1
      have HE2 := Lib.hid he2
      have RR : Hid ((wr.setCells (Bf + 1) 0 (elF e2)).rangeAt (Bf + 1) 0 (elF e2)) := Lib.hid (World.rangeAt_setCells_same _ _ _ _ (by simpa [elF] using GT.out))
      have KZ : Hid (Kp (RG Bf (Bf + 1)) wr (wr.setCells (Bf + 1) 0 (elF e2))) := Lib.hid (Kp.setCells (.inr rfl) _ _ _ (Kp.refl _ _))
      clear he2 z1 z2
      go_wp2_with (first | (refine wpList_load28 _ Bf e2 ?F rfl rfl rfl ?_; (case F => exact GZ2.out)) | (refine wpList_storeK (Bf + 1) e2 ?T _ _ rfl rfl rfl rfl ?_; (case T => exact GT.out)))
      have hbz : Below w.heap.size w (wr.setCells (Bf + 1) 0 (elF e2)) := by
        rw [hBs]
        exact z7.out.trans (KZ.out.below (by have := z7.out.size; omega) (by rintro q (rfl | rfl) <;> omega))
      have o1 := KZ.out.own (base := Bf + 2) (by rintro q (rfl | rfl) <;> omega) z6.out.1
      have o2 := KZ.out.own (base := Bf + 2) (by rintro q (rfl | rfl) <;> omega) z6.out.2.1
      have o3 := KZ.out.own (base := Bf + 2) (by rintro q (rfl | rfl) <;> omega) z6.out.2.2
      have o4 : ∀ x ∈ ms, BeIn (Bf + 2) (wr.setCells (Bf + 1) 0 (elF e2)) x := by
        intro x hx
        obtain ⟨j, hj, hjx⟩ := List.mem_iff_getElem.1 hx
        have hml : ms.length = bn := by have := congrArg List.length z3.out; simp only [blks, List.length_map] at this; rw [this]; exact hlen.out
        have := z4.out j x (by omega) (by rw [List.getElem?_eq_getElem hj, hjx])
        exact ⟨this.1, KZ.out.own (by rintro q (rfl | rfl) <;> omega) this.2⟩
      refine ⟨rfl, aggF e2, results_one (k := 2) (t1 := 28) (by kernel_rfl) (load_fact RR.out) (by rfl), e2, rfl, by rw [HE2.out], ?_, hbz⟩
      revert o1 o2 o3 o4
      generalize wr.setCells (Bf + 1) 0 (elF e2) = Wz
      intro o1 o2 o3 o4
      rw [HE2.out]
      exact FeIn.mono (base := Bf + 2) (by omega) ⟨o1, HT.out.2.2.2.1, ⟨ms, z3.out.trans HES.out, o3, o4⟩, o2, ⟨fun z hz => wf64 (HL.out.1.2.2.2.1 z hz), HL.out.2⟩, HIS.out.1, HIS.out.2⟩
end Go.Proofs.YtlhcckjfgpcohaaGreatDoor
namespace Go.Proofs.YtlhcckjfgpcohaaGreatDoor
open Go.RowKit Go.MapKept
set_option maxRecDepth 100000
set_option linter.unusedSimpArgs false
set_option linter.unusedVariables false
set_option maxHeartbeats 8000000 in
theorem redact5 (e : FE) (w : World) (h : FeOk w e) (hs : FeSm e) : Calls Tryz.prog 19 #[aggF e] w fun r w' => ∃ e', r = .returned (aggF e') ∧ e'.f = redF e.f ∧ FeIn w.heap.size w' e' ∧ Below w.heap.size w w' := by
  have HD : Hid (∀ W (hW : Below w.heap.size w W), Calls Tryz.prog 30 #[aggF e] W fun r w' => ∃ e2 : FE, r = .returned (.agg #[.int .i64 e2.f.n, .int .i64 e2.f.tm, .int .i64 e2.f.kd, .int .i64 e2.f.st, .string ⟨e2.f.lg.toArray⟩, .int .i64 e2.f.rv, .int .i64 e2.f.bs, .string ⟨e2.f.ti.toArray⟩, .string ⟨e2.f.au.toArray⟩, .slice e2.ta e2.tn e2.tc, .slice e2.ba e2.bn e2.bc, .int .i64 e2.f.lb.u, .slice e2.la e2.ln e2.lc, .int .i64 e2.f.lb.ap, .int .i64 e2.f.lb.d, .int .i64 e2.f.ed, .int .i64 e2.f.bk, .int .i64 e2.f.se, .string ⟨e2.f.tx.toArray⟩, .string ⟨e2.f.nm.toArray⟩, .int .i64 e2.f.pt, .int .i64 e2.f.cl, .int .i64 e2.f.un]) ∧ e2.f = e.f ∧ FeIn W.heap.size w' e2 ∧ Below W.heap.size W w') := Lib.hid (fun W hW => detached5 e W (h.over hW) hs)
  have HI := Lib.hid h.ints
  clear h hs
  obtain ⟨Bf, hBf⟩ : ∃ Bf, Bf = w.heap.size := ⟨_, rfl⟩
  obtain ⟨W0, hW0⟩ : ∃ W0, W0 = ((w.alloc (.cells #[.int .i64 e.f.n, .int .i64 e.f.tm, .int .i64 e.f.kd, .int .i64 e.f.st, .string ⟨e.f.lg.toArray⟩, .int .i64 e.f.rv, .int .i64 e.f.bs, .string ⟨e.f.ti.toArray⟩, .string ⟨e.f.au.toArray⟩, .slice e.ta e.tn e.tc, .slice e.ba e.bn e.bc, .int .i64 e.f.lb.u, .slice e.la e.ln e.lc, .int .i64 e.f.lb.ap, .int .i64 e.f.lb.d, .int .i64 e.f.ed, .int .i64 e.f.bk, .int .i64 e.f.se, .string ⟨e.f.tx.toArray⟩, .string ⟨e.f.nm.toArray⟩, .int .i64 e.f.pt, .int .i64 e.f.cl, .int .i64 e.f.un] 28)).alloc (.cells #[.int .i64 0, .int .i64 0, .int .i64 0, .int .i64 0, .string ⟨#[]⟩, .int .i64 0, .int .i64 0, .string ⟨#[]⟩, .string ⟨#[]⟩, .slice none 0 0, .slice none 0 0, .int .i64 0, .slice none 0 0, .int .i64 0, .int .i64 0, .int .i64 0, .int .i64 0, .int .i64 0, .string ⟨#[]⟩, .string ⟨#[]⟩, .int .i64 0, .int .i64 0, .int .i64 0] 28)) := ⟨_, rfl⟩
  have F0 : Hid (FcAt W0 Bf e) := Lib.hid (by
    rw [hW0, hBf]
    exact blockOver (below_alloc _ _) (heap_alloc_new w _))
  have R0 : Hid (FcAt W0 (Bf + 1) zE) := Lib.hid (by
    rw [hW0, hBf]
    have := heap_alloc_new (w.alloc (.cells #[.int .i64 e.f.n, .int .i64 e.f.tm, .int .i64 e.f.kd, .int .i64 e.f.st, .string ⟨e.f.lg.toArray⟩, .int .i64 e.f.rv, .int .i64 e.f.bs, .string ⟨e.f.ti.toArray⟩, .string ⟨e.f.au.toArray⟩, .slice e.ta e.tn e.tc, .slice e.ba e.bn e.bc, .int .i64 e.f.lb.u, .slice e.la e.ln e.lc, .int .i64 e.f.lb.ap, .int .i64 e.f.lb.d, .int .i64 e.f.ed, .int .i64 e.f.bk, .int .i64 e.f.se, .string ⟨e.f.tx.toArray⟩, .string ⟨e.f.nm.toArray⟩, .int .i64 e.f.pt, .int .i64 e.f.cl, .int .i64 e.f.un] 28)) (.cells #[.int .i64 0, .int .i64 0, .int .i64 0, .int .i64 0, .string ⟨#[]⟩, .int .i64 0, .int .i64 0, .string ⟨#[]⟩, .string ⟨#[]⟩, .slice none 0 0, .slice none 0 0, .int .i64 0, .slice none 0 0, .int .i64 0, .int .i64 0, .int .i64 0, .int .i64 0, .int .i64 0, .string ⟨#[]⟩, .string ⟨#[]⟩, .int .i64 0, .int .i64 0, .int .i64 0] 28)
    rw [show (w.alloc (.cells #[.int .i64 e.f.n, .int .i64 e.f.tm, .int .i64 e.f.kd, .int .i64 e.f.st, .string ⟨e.f.lg.toArray⟩, .int .i64 e.f.rv, .int .i64 e.f.bs, .string ⟨e.f.ti.toArray⟩, .string ⟨e.f.au.toArray⟩, .slice e.ta e.tn e.tc, .slice e.ba e.bn e.bc, .int .i64 e.f.lb.u, .slice e.la e.ln e.lc, .int .i64 e.f.lb.ap, .int .i64 e.f.lb.d, .int .i64 e.f.ed, .int .i64 e.f.bk, .int .i64 e.f.se, .string ⟨e.f.tx.toArray⟩, .string ⟨e.f.nm.toArray⟩, .int .i64 e.f.pt, .int .i64 e.f.cl, .int .i64 e.f.un] 28)).heap.size = w.heap.size + 1 by simp] at this
    exact this)
  have B0 : Hid (Below Bf w W0) := Lib.hid (by rw [hW0, hBf]; exact bel2 (below_alloc w _) (below_alloc _ _))
  have hsz0 : Hid (W0.heap.size = Bf + 2) := Lib.hid (by rw [hW0, hBf]; simp)
  have HW0 := Lib.hid hW0
  have hBs : w.heap.size = Bf := hBf.symm
  rw [hBs] at HD
  clear hW0 hBf
  show Calls _ _ #[.agg #[.int .i64 e.f.n, .int .i64 e.f.tm, .int .i64 e.f.kd, .int .i64 e.f.st, .string ⟨e.f.lg.toArray⟩, .int .i64 e.f.rv, .int .i64 e.f.bs, .string ⟨e.f.ti.toArray⟩, .string ⟨e.f.au.toArray⟩, .slice e.ta e.tn e.tc, .slice e.ba e.bn e.bc, .int .i64 e.f.lb.u, .slice e.la e.ln e.lc, .int .i64 e.f.lb.ap, .int .i64 e.f.lb.d, .int .i64 e.f.ed, .int .i64 e.f.bk, .int .i64 e.f.se, .string ⟨e.f.tx.toArray⟩, .string ⟨e.f.nm.toArray⟩, .int .i64 e.f.pt, .int .i64 e.f.cl, .int .i64 e.f.un]] w _
  have fin : ∀ (W : World) (e2 : FE), Below Bf w W → W.there (Bf + 1) 0 23 → FeOk w e2 ∨ (∃ base, FeOk W e2 ∧ base = W) → True := fun _ _ _ _ _ => trivial
  clear fin
  by_cases hc : cutB e.f = true
  · have hr : Hid (redF e.f = goneF e.f) := Lib.hid (by unfold redF; rw [if_pos hc])
    have RR : Hid ((W0.setCells (Bf + 1) 0 (elF ⟨goneF e.f, none, 0, 0, none, 0, 0, none, 0, 0⟩)).rangeAt (Bf + 1) 0 (elF ⟨goneF e.f, none, 0, 0, none, 0, 0, none, 0, 0⟩)) := Lib.hid (World.rangeAt_setCells_same _ _ _ _ (by simpa [elF] using R0.out.there))
    have KZ : Hid (Kp (RG Bf (Bf + 1)) W0 (W0.setCells (Bf + 1) 0 (elF ⟨goneF e.f, none, 0, 0, none, 0, 0, none, 0, 0⟩))) := Lib.hid (Kp.setCells (.inr rfl) _ _ _ (Kp.refl _ _))
    have hbz : Hid (Below w.heap.size w (W0.setCells (Bf + 1) 0 (elF ⟨goneF e.f, none, 0, 0, none, 0, 0, none, 0, 0⟩))) := Lib.hid (by
      rw [hBs]
      exact B0.out.trans (KZ.out.below (by have := hsz0.out; omega) (by rintro q (rfl | rfl) <;> omega)))
    have hok : Hid (FeIn w.heap.size (W0.setCells (Bf + 1) 0 (elF ⟨goneF e.f, none, 0, 0, none, 0, 0, none, 0, 0⟩)) ⟨goneF e.f, none, 0, 0, none, 0, 0, none, 0, 0⟩) := Lib.hid (by
      obtain ⟨i1, i2, i3, i4, _⟩ := HI.out
      have z : Bd 0 := by simp [Bd]
      exact ⟨World.ownsRow_nil _ _ _ _, by simp [goneF, zF], ⟨[], rfl, World.ownsRow_nil _ _ _ _, by simp⟩, World.ownsRow_nil _ _ _ _, by simp [goneF, zF, zeroL, Bd], ⟨i1, i2, by simp [goneF, Bd], i4, z, z, z, z, z, z, z, z⟩, ⟨Nat.zero_le _, Nat.zero_le _, Nat.zero_le _, Nat.zero_le _, Nat.zero_le _⟩⟩)
    have GT := Lib.hid R0.out.there
    have h3 : e.f.kd = 1 ∨ e.f.kd = 4 ∨ e.f.kd = 5 := by simpa [cutB] using hc
    clear hc HD
    rcases h3 with h3 | h3 | h3
    all_goals
      have HW1 := HW0
      rw [h3] at HW1
      go_enter Tryz.func19, Tryz.ntmps19
      go_wp2_with (refine wpList_storeK (Bf + 1) ⟨goneF e.f, none, 0, 0, none, 0, 0, none, 0, 0⟩ ?T _ _ rfl rfl rfl rfl ?_; (case T => rw [← HW1.out]; exact GT.out))
      rw [← HW1.out]
      exact ⟨rfl, _, results_one (k := 2) (t1 := 28) (by kernel_rfl) (load_fact RR.out) (by rfl), _, rfl, by rw [hr.out], hok.out, hbz.out⟩
  · have hr : Hid (redF e.f = e.f) := Lib.hid (by unfold redF; rw [if_neg hc])
    have h3 : e.f.kd ≠ 1 ∧ e.f.kd ≠ 4 ∧ e.f.kd ≠ 5 := by simpa [cutB, not_or] using hc
    have b1 : (e.f.kd == 1) = false := by simp [h3.1]
    have b4 : (e.f.kd == 4) = false := by simp [h3.2.1]
    have b5 : (e.f.kd == 5) = false := by simp [h3.2.2]
    clear hc h3
    go_enter Tryz.func19, Tryz.ntmps19
    have c2 : W0.cell? ⟨Bf, 2, none⟩ = some (.int .i64 e.f.kd) := F0.out.cell 2
    go_wp2_with (first | (rw [← HW0.out]) | (refine wpList_load28 _ Bf e ?F rfl rfl rfl ?_; (case F => exact F0.out)))
    refine (show Calls _ _ #[aggF e] _ _ from (HD.out W0 B0.out).mono ?_)
    rintro r w1 ⟨e2, rfl, hf, hok, hb⟩
    have R1 := Lib.hid (R0.out.over hb)
    have HOK := Lib.hid hok
    have HF := Lib.hid hf
    have B1 : Hid (Below Bf w w1) := Lib.hid (B0.out.trans (hb.mono (by have := hsz0.out; omega)))
    have RR : Hid ((w1.setCells (Bf + 1) 0 (elF e2)).rangeAt (Bf + 1) 0 (elF e2)) := Lib.hid (World.rangeAt_setCells_same _ _ _ _ (by simpa [elF] using R1.out.there))
    have KZ : Hid (Kp (RG Bf (Bf + 1)) w1 (w1.setCells (Bf + 1) 0 (elF e2))) := Lib.hid (Kp.setCells (.inr rfl) _ _ _ (Kp.refl _ _))
    have GT := Lib.hid R1.out.there
    clear hf hok hb HD R0 F0
    go_wp2_with (refine wpList_storeK (Bf + 1) e2 ?T _ _ rfl rfl rfl rfl ?_; (case T => exact GT.out))
    have hbz : Below w.heap.size w (w1.setCells (Bf + 1) 0 (elF e2)) := by
      rw [hBs]
      exact B1.out.trans (KZ.out.below (by have := B1.out.size; omega) (by rintro q (rfl | rfl) <;> omega))
    have hin := HOK.out.kp KZ.out (by have := hsz0.out; rintro q (rfl | rfl) <;> omega)
    refine ⟨rfl, aggF e2, results_one (k := 2) (t1 := 28) (by kernel_rfl) (load_fact RR.out) (by rfl), e2, rfl, by rw [hr.out, HF.out], hin.mono (by rw [hBs, hsz0.out]; omega), hbz⟩
end Go.Proofs.YtlhcckjfgpcohaaGreatDoor
namespace Go.Proofs.YtlhcckjfgpcohaaGreatDoor
open Go.RowKit Go.MapKept
set_option maxRecDepth 100000
set_option linter.unusedSimpArgs false
set_option linter.unusedVariables false
def sf1 : Fct := { zF with n := 2, tm := 70, kd := 6, st := 5 }
def sf2 : Fct := { zF with n := 2, tm := 70, kd := 6, st := 65 }
def sf3 : Fct := { zF with n := 1, kd := 2, st := 3, ed := 2 }
def sf4 : Fct := { zF with n := 1, kd := 2, st := 3, ed := 2, lg := [101, 110] }
def sf5 : Fct := { zF with kd := 1, st := 1, lg := [101, 110], rv := 1, ti := [82, 97, 105, 110], au := [97, 110, 110], tp := [[97], [98]], bl := [⟨1, 1, [82, 97, 105, 110], 0, 0, zeroL⟩] }
def sf9 : Fct := { zF with n := 9, tm := 5, kd := 4, st := 2, lg := [101, 110], bk := 1, tx := [78, 111, 46] }
def sf10 : Fct := { zF with n := 9, tm := 5, kd := 10, st := 2 }
theorem sane_e5 : encE sf1 = ([4, 140, 1, 12, 10], 0) ∧ encE sf2 = ([], 50) := by decide +kernel
theorem sane_v5 : vF sf3 = true ∧ vF sf4 = false ∧ vF sf5 = true := by decide +kernel
theorem sane_d5 : decF [4, 140, 1, 12, 10] = (sf1, 0) ∧ (decF [4, 140, 1, 12, 10, 0]).2 = 10 ∧ (decF [4, 140, 1, 22, 10]).2 = 50 :=
  ⟨by rw [show ([4, 140, 1, 12, 10] : List UInt8) = encV sf1 by decide +kernel]; exact decF_enc (by decide +kernel), by decide +kernel, by decide +kernel⟩
theorem sane_r5 : redF sf9 = sf10 ∧ sF sf10 sf10 = true ∧ sF sf1 sf10 = false := ⟨by rfl, sF_self _, by decide +kernel⟩
/-- A fact without lists. -/
def nE (f : Fct) : FE := ⟨f, none, 0, 0, none, 0, 0, none, 0, 0⟩
theorem nE_ok {f : Fct} (w : World) (h1 : f.tp = []) (h2 : f.bl = []) (h3 : f.lb = zeroL) (hi : Bd f.n ∧ Bd f.tm ∧ Bd f.kd ∧ Bd f.st ∧ Bd f.rv ∧ Bd f.bs ∧ Bd f.ed ∧ Bd f.bk ∧ Bd f.se ∧ Bd f.pt ∧ Bd f.cl ∧ Bd f.un) (hs : f.lg.length ≤ 1000 ∧ f.ti.length ≤ 1000 ∧ f.au.length ≤ 1000 ∧ f.tx.length ≤ 1000 ∧ f.nm.length ≤ 1000) : FeOk w (nE f) := by
  have z : (1000 : Nat) ≤ maxLen := by unfold maxLen; omega
  refine ⟨by show IsTp w none 0 0 f.tp; rw [h1]; exact nil_tp w, by show IsBl w none 0 0 f.bl; rw [h2]; exact nil_bl w, by show LabAt w none 0 0 f.lb; rw [h3]; exact nil_lab w, hi, ?_⟩
  exact ⟨Nat.le_trans hs.1 z, Nat.le_trans hs.2.1 z, Nat.le_trans hs.2.2.1 z, Nat.le_trans hs.2.2.2.1 z, Nat.le_trans hs.2.2.2.2 z⟩
theorem kE1 (W : World) : Calls Tryz.prog 12 #[.agg #[.int .i64 2, .int .i64 70, .int .i64 6, .int .i64 5, .string ⟨#[]⟩, .int .i64 0, .int .i64 0, .string ⟨#[]⟩, .string ⟨#[]⟩, .slice none 0 0, .slice none 0 0, .int .i64 0, .slice none 0 0, .int .i64 0, .int .i64 0, .int .i64 0, .int .i64 0, .int .i64 0, .string ⟨#[]⟩, .string ⟨#[]⟩, .int .i64 0, .int .i64 0, .int .i64 0]] W fun r w' => r = .returned (.tuple #[.string ⟨#[4, 140, 1, 12, 10]⟩, .int .i64 0]) ∧ Below W.heap.size W w' := by
  have h := encode5 (nE sf1) W (nE_ok W rfl rfl rfl (by simp [sf1, zF, Bd]) (by simp [sf1, zF]))
  rw [show (nE sf1).f = sf1 from rfl, sane_e5.1] at h
  exact h
theorem kE2 (W : World) : Calls Tryz.prog 12 #[.agg #[.int .i64 2, .int .i64 70, .int .i64 6, .int .i64 65, .string ⟨#[]⟩, .int .i64 0, .int .i64 0, .string ⟨#[]⟩, .string ⟨#[]⟩, .slice none 0 0, .slice none 0 0, .int .i64 0, .slice none 0 0, .int .i64 0, .int .i64 0, .int .i64 0, .int .i64 0, .int .i64 0, .string ⟨#[]⟩, .string ⟨#[]⟩, .int .i64 0, .int .i64 0, .int .i64 0]] W fun r w' => r = .returned (.tuple #[.string ⟨#[]⟩, .int .i64 50]) ∧ Below W.heap.size W w' := by
  have h := encode5 (nE sf2) W (nE_ok W rfl rfl rfl (by simp [sf2, zF, Bd]) (by simp [sf2, zF]))
  rw [show (nE sf2).f = sf2 from rfl, sane_e5.2] at h
  exact h
theorem kV3 (W : World) : Calls Tryz.prog 13 #[.agg #[.int .i64 1, .int .i64 0, .int .i64 2, .int .i64 3, .string ⟨#[]⟩, .int .i64 0, .int .i64 0, .string ⟨#[]⟩, .string ⟨#[]⟩, .slice none 0 0, .slice none 0 0, .int .i64 0, .slice none 0 0, .int .i64 0, .int .i64 0, .int .i64 2, .int .i64 0, .int .i64 0, .string ⟨#[]⟩, .string ⟨#[]⟩, .int .i64 0, .int .i64 0, .int .i64 0]] W fun r w' => r = .returned (.bool true) ∧ Below W.heap.size W w' := by
  have h := valid5 (nE sf3) W (nE_ok W rfl rfl rfl (by simp [sf3, zF, Bd]) (by simp [sf3, zF]))
  rw [show (nE sf3).f = sf3 from rfl, sane_v5.1] at h
  exact h
theorem kV4 (W : World) : Calls Tryz.prog 13 #[.agg #[.int .i64 1, .int .i64 0, .int .i64 2, .int .i64 3, .string ⟨#[101, 110]⟩, .int .i64 0, .int .i64 0, .string ⟨#[]⟩, .string ⟨#[]⟩, .slice none 0 0, .slice none 0 0, .int .i64 0, .slice none 0 0, .int .i64 0, .int .i64 0, .int .i64 2, .int .i64 0, .int .i64 0, .string ⟨#[]⟩, .string ⟨#[]⟩, .int .i64 0, .int .i64 0, .int .i64 0]] W fun r w' => r = .returned (.bool false) ∧ Below W.heap.size W w' := by
  have h := valid5 (nE sf4) W (nE_ok W rfl rfl rfl (by simp [sf4, zF, Bd]) (by simp [sf4, zF]))
  rw [show (nE sf4).f = sf4 from rfl, sane_v5.2.1] at h
  exact h
def sB5 : BE := (⟨1, 1, [82, 97, 105, 110], 0, 0, zeroL⟩, none, 0, 0)
theorem sB5_ok (w : World) : BeOk w sB5 := ⟨⟨nil_ints w, by simp [sB5, zeroL, Bd]⟩, by simp [sB5]; unfold maxLen; omega, by simp [sB5, Bd]⟩
def oT5 : Obj := .cells #[.string ⟨#[97]⟩, .string ⟨#[98]⟩] 9
def oB5 : Obj := .cells #[.int .i64 1, .int .i64 1, .string ⟨#[82, 97, 105, 110]⟩, .int .i64 0, .int .i64 0, .int .i64 0, .slice none 0 0, .int .i64 0, .int .i64 0] 49
theorem kV5 (W : World) : Calls Tryz.prog 13 #[.agg #[.int .i64 0, .int .i64 0, .int .i64 1, .int .i64 1, .string ⟨#[101, 110]⟩, .int .i64 1, .int .i64 0, .string ⟨#[82, 97, 105, 110]⟩, .string ⟨#[97, 110, 110]⟩, .slice (some ⟨W.heap.size, 0, none⟩) 2 2, .slice (some ⟨W.heap.size + 1, 0, none⟩) 1 1, .int .i64 0, .slice none 0 0, .int .i64 0, .int .i64 0, .int .i64 0, .int .i64 0, .int .i64 0, .string ⟨#[]⟩, .string ⟨#[]⟩, .int .i64 0, .int .i64 0, .int .i64 0]] ((W.alloc oT5).alloc oB5) fun r w' => r = .returned (.bool true) ∧ Below W.heap.size W w' := by
  have g0 : ((W.alloc oT5).alloc oB5).heap[W.heap.size]? = some oT5 := blockOver (below_alloc _ _) (heap_alloc_new W oT5)
  have g1 : ((W.alloc oT5).alloc oB5).heap[W.heap.size + 1]? = some oB5 := by
    have := heap_alloc_new (W.alloc oT5) oB5
    rwa [show (W.alloc oT5).heap.size = W.heap.size + 1 by simp] at this
  have ok : FeOk ((W.alloc oT5).alloc oB5) ⟨sf5, some ⟨W.heap.size, 0, none⟩, 2, 2, some ⟨W.heap.size + 1, 0, none⟩, 1, 1, none, 0, 0⟩ := by
    refine ⟨⟨rfl, Nat.le_refl _, (by show (2 : Nat) ≤ maxLen; unfold maxLen; omega), by intro s hs; simp [sf5] at hs; rcases hs with rfl | rfl <;> (simp; unfold maxLen; omega), .inr ⟨_, 0, rfl, fun i s hs => ?_⟩⟩, ⟨[sB5], rfl, rfl, Nat.le_refl _, (by show (1 : Nat) ≤ maxLen; unfold maxLen; omega), by intro e he; simp at he; subst he; exact sB5_ok _, .inr ⟨_, 0, rfl, fun k e he j v hv => ?_⟩⟩, nil_lab _, by simp [sf5, zF, Bd], by simp [sf5, zF]; unfold maxLen; omega⟩
    · rw [Joins.cell_of_block g0, Nat.zero_add]
      rcases i with _ | _ | i
      · cases hs; rfl
      · cases hs; rfl
      · simp [sf5] at hs
    · rw [Joins.cell_of_block g1]
      rcases k with _ | k
      · simp at he
        subst he
        rw [show 0 + 0 * 9 + j = j by omega]
        have : (#[.int .i64 1, .int .i64 1, .string ⟨#[82, 97, 105, 110]⟩, .int .i64 0, .int .i64 0, .int .i64 0, .slice none 0 0, .int .i64 0, .int .i64 0] : Array Value)[j]? = (elB sB5)[j]? := by rw [← List.getElem?_toArray]; rfl
        rw [this]; exact hv
      · simp at he
  have h := valid5 ⟨sf5, some ⟨W.heap.size, 0, none⟩, 2, 2, some ⟨W.heap.size + 1, 0, none⟩, 1, 1, none, 0, 0⟩ ((W.alloc oT5).alloc oB5) ok
  rw [show (⟨sf5, some ⟨W.heap.size, 0, none⟩, 2, 2, some ⟨W.heap.size + 1, 0, none⟩, 1, 1, none, 0, 0⟩ : FE).f = sf5 from rfl, sane_v5.2.2] at h
  exact h.mono (fun r w' hr => ⟨hr.1, bel2 (bel2 (below_alloc _ _) (below_alloc _ _)) hr.2⟩)
theorem kD (s : List UInt8) (W : World) (hs : s.length ≤ 1000) : Calls Tryz.prog 14 #[.string ⟨s.toArray⟩] W fun r w' => ∃ e : FE, r = .returned (.tuple #[.agg #[.int .i64 e.f.n, .int .i64 e.f.tm, .int .i64 e.f.kd, .int .i64 e.f.st, .string ⟨e.f.lg.toArray⟩, .int .i64 e.f.rv, .int .i64 e.f.bs, .string ⟨e.f.ti.toArray⟩, .string ⟨e.f.au.toArray⟩, .slice e.ta e.tn e.tc, .slice e.ba e.bn e.bc, .int .i64 e.f.lb.u, .slice e.la e.ln e.lc, .int .i64 e.f.lb.ap, .int .i64 e.f.lb.d, .int .i64 e.f.ed, .int .i64 e.f.bk, .int .i64 e.f.se, .string ⟨e.f.tx.toArray⟩, .string ⟨e.f.nm.toArray⟩, .int .i64 e.f.pt, .int .i64 e.f.cl, .int .i64 e.f.un], .int .i64 (decF s).2]) ∧ e.f = (decF s).1 ∧ FeIn W.heap.size w' e ∧ Below W.heap.size W w' := by
  have h := decode5 ⟨s.toArray⟩ W (by rw [mk_size']; unfold maxLen; omega)
  rw [show (⟨s.toArray⟩ : ByteArray).data.toList = s by simp] at h
  exact h
theorem kR9 (W : World) : Calls Tryz.prog 19 #[.agg #[.int .i64 9, .int .i64 5, .int .i64 4, .int .i64 2, .string ⟨#[101, 110]⟩, .int .i64 0, .int .i64 0, .string ⟨#[]⟩, .string ⟨#[]⟩, .slice none 0 0, .slice none 0 0, .int .i64 0, .slice none 0 0, .int .i64 0, .int .i64 0, .int .i64 0, .int .i64 1, .int .i64 0, .string ⟨#[78, 111, 46]⟩, .string ⟨#[]⟩, .int .i64 0, .int .i64 0, .int .i64 0]] W fun r w' => ∃ e : FE, r = .returned (.agg #[.int .i64 e.f.n, .int .i64 e.f.tm, .int .i64 e.f.kd, .int .i64 e.f.st, .string ⟨e.f.lg.toArray⟩, .int .i64 e.f.rv, .int .i64 e.f.bs, .string ⟨e.f.ti.toArray⟩, .string ⟨e.f.au.toArray⟩, .slice e.ta e.tn e.tc, .slice e.ba e.bn e.bc, .int .i64 e.f.lb.u, .slice e.la e.ln e.lc, .int .i64 e.f.lb.ap, .int .i64 e.f.lb.d, .int .i64 e.f.ed, .int .i64 e.f.bk, .int .i64 e.f.se, .string ⟨e.f.tx.toArray⟩, .string ⟨e.f.nm.toArray⟩, .int .i64 e.f.pt, .int .i64 e.f.cl, .int .i64 e.f.un]) ∧ e.f = sf10 ∧ FeIn W.heap.size w' e ∧ Below W.heap.size W w' := by
  have h := redact5 (nE sf9) W (nE_ok W rfl rfl rfl (by simp [sf9, zF, Bd]) (by simp [sf9, zF])) ⟨⟨Nat.zero_le _, Nat.zero_le _, Nat.zero_le _⟩, by intro b hb; simp [nE, sf9, zF] at hb⟩
  rw [show (nE sf9).f = sf9 from rfl, sane_r5.1] at h
  exact h
theorem kD1 (W : World) : Calls Tryz.prog 14 #[.string ⟨#[4, 140, 1, 12, 10]⟩] W fun r w' => ∃ e : FE, r = .returned (.tuple #[.agg #[.int .i64 e.f.n, .int .i64 e.f.tm, .int .i64 e.f.kd, .int .i64 e.f.st, .string ⟨e.f.lg.toArray⟩, .int .i64 e.f.rv, .int .i64 e.f.bs, .string ⟨e.f.ti.toArray⟩, .string ⟨e.f.au.toArray⟩, .slice e.ta e.tn e.tc, .slice e.ba e.bn e.bc, .int .i64 e.f.lb.u, .slice e.la e.ln e.lc, .int .i64 e.f.lb.ap, .int .i64 e.f.lb.d, .int .i64 e.f.ed, .int .i64 e.f.bk, .int .i64 e.f.se, .string ⟨e.f.tx.toArray⟩, .string ⟨e.f.nm.toArray⟩, .int .i64 e.f.pt, .int .i64 e.f.cl, .int .i64 e.f.un], .int .i64 0]) ∧ e.f = sf1 ∧ FeIn W.heap.size w' e ∧ Below W.heap.size W w' := by
  have h := kD [4, 140, 1, 12, 10] W (by decide)
  rw [sane_d5.1] at h
  exact h
theorem kD2 (W : World) : Calls Tryz.prog 14 #[.string ⟨#[4, 140, 1, 12, 10, 0]⟩] W fun r w' => ∃ e : FE, r = .returned (.tuple #[.agg #[.int .i64 e.f.n, .int .i64 e.f.tm, .int .i64 e.f.kd, .int .i64 e.f.st, .string ⟨e.f.lg.toArray⟩, .int .i64 e.f.rv, .int .i64 e.f.bs, .string ⟨e.f.ti.toArray⟩, .string ⟨e.f.au.toArray⟩, .slice e.ta e.tn e.tc, .slice e.ba e.bn e.bc, .int .i64 e.f.lb.u, .slice e.la e.ln e.lc, .int .i64 e.f.lb.ap, .int .i64 e.f.lb.d, .int .i64 e.f.ed, .int .i64 e.f.bk, .int .i64 e.f.se, .string ⟨e.f.tx.toArray⟩, .string ⟨e.f.nm.toArray⟩, .int .i64 e.f.pt, .int .i64 e.f.cl, .int .i64 e.f.un], .int .i64 10]) ∧ Below W.heap.size W w' := by
  have h := kD [4, 140, 1, 12, 10, 0] W (by decide)
  rw [sane_d5.2.1] at h
  exact h.mono (fun r w' ⟨e, h1, _, _, h2⟩ => ⟨e, h1, h2⟩)
theorem kD3 (W : World) : Calls Tryz.prog 14 #[.string ⟨#[4, 140, 1, 22, 10]⟩] W fun r w' => ∃ e : FE, r = .returned (.tuple #[.agg #[.int .i64 e.f.n, .int .i64 e.f.tm, .int .i64 e.f.kd, .int .i64 e.f.st, .string ⟨e.f.lg.toArray⟩, .int .i64 e.f.rv, .int .i64 e.f.bs, .string ⟨e.f.ti.toArray⟩, .string ⟨e.f.au.toArray⟩, .slice e.ta e.tn e.tc, .slice e.ba e.bn e.bc, .int .i64 e.f.lb.u, .slice e.la e.ln e.lc, .int .i64 e.f.lb.ap, .int .i64 e.f.lb.d, .int .i64 e.f.ed, .int .i64 e.f.bk, .int .i64 e.f.se, .string ⟨e.f.tx.toArray⟩, .string ⟨e.f.nm.toArray⟩, .int .i64 e.f.pt, .int .i64 e.f.cl, .int .i64 e.f.un], .int .i64 50]) ∧ Below W.heap.size W w' := by
  have h := kD [4, 140, 1, 22, 10] W (by decide)
  rw [sane_d5.2.2] at h
  exact h.mono (fun r w' ⟨e, h1, _, _, h2⟩ => ⟨e, h1, h2⟩)
theorem kS1 (W : World) (e : FE) (h : FeOk W e) (hf : e.f = sf10) : Calls Tryz.prog 15 #[.agg #[.int .i64 e.f.n, .int .i64 e.f.tm, .int .i64 e.f.kd, .int .i64 e.f.st, .string ⟨e.f.lg.toArray⟩, .int .i64 e.f.rv, .int .i64 e.f.bs, .string ⟨e.f.ti.toArray⟩, .string ⟨e.f.au.toArray⟩, .slice e.ta e.tn e.tc, .slice e.ba e.bn e.bc, .int .i64 e.f.lb.u, .slice e.la e.ln e.lc, .int .i64 e.f.lb.ap, .int .i64 e.f.lb.d, .int .i64 e.f.ed, .int .i64 e.f.bk, .int .i64 e.f.se, .string ⟨e.f.tx.toArray⟩, .string ⟨e.f.nm.toArray⟩, .int .i64 e.f.pt, .int .i64 e.f.cl, .int .i64 e.f.un], .agg #[.int .i64 9, .int .i64 5, .int .i64 10, .int .i64 2, .string ⟨#[]⟩, .int .i64 0, .int .i64 0, .string ⟨#[]⟩, .string ⟨#[]⟩, .slice none 0 0, .slice none 0 0, .int .i64 0, .slice none 0 0, .int .i64 0, .int .i64 0, .int .i64 0, .int .i64 0, .int .i64 0, .string ⟨#[]⟩, .string ⟨#[]⟩, .int .i64 0, .int .i64 0, .int .i64 0]] W fun r w' => r = .returned (.bool true) ∧ Below W.heap.size W w' := by
  have k := same5 e (nE sf10) W h (nE_ok W rfl rfl rfl (by simp [sf10, zF, Bd]) (by simp [sf10, zF]))
  rw [hf, show (nE sf10).f = sf10 from rfl, sane_r5.2.1] at k
  exact k
theorem kS2 (W : World) (e d : FE) (h : FeOk W e) (hf : e.f = sf1) (h2 : FeOk W d) (hd : d.f = sf10) : Calls Tryz.prog 15 #[.agg #[.int .i64 e.f.n, .int .i64 e.f.tm, .int .i64 e.f.kd, .int .i64 e.f.st, .string ⟨e.f.lg.toArray⟩, .int .i64 e.f.rv, .int .i64 e.f.bs, .string ⟨e.f.ti.toArray⟩, .string ⟨e.f.au.toArray⟩, .slice e.ta e.tn e.tc, .slice e.ba e.bn e.bc, .int .i64 e.f.lb.u, .slice e.la e.ln e.lc, .int .i64 e.f.lb.ap, .int .i64 e.f.lb.d, .int .i64 e.f.ed, .int .i64 e.f.bk, .int .i64 e.f.se, .string ⟨e.f.tx.toArray⟩, .string ⟨e.f.nm.toArray⟩, .int .i64 e.f.pt, .int .i64 e.f.cl, .int .i64 e.f.un], .agg #[.int .i64 d.f.n, .int .i64 d.f.tm, .int .i64 d.f.kd, .int .i64 d.f.st, .string ⟨d.f.lg.toArray⟩, .int .i64 d.f.rv, .int .i64 d.f.bs, .string ⟨d.f.ti.toArray⟩, .string ⟨d.f.au.toArray⟩, .slice d.ta d.tn d.tc, .slice d.ba d.bn d.bc, .int .i64 d.f.lb.u, .slice d.la d.ln d.lc, .int .i64 d.f.lb.ap, .int .i64 d.f.lb.d, .int .i64 d.f.ed, .int .i64 d.f.bk, .int .i64 d.f.se, .string ⟨d.f.tx.toArray⟩, .string ⟨d.f.nm.toArray⟩, .int .i64 d.f.pt, .int .i64 d.f.cl, .int .i64 d.f.un]] W fun r w' => r = .returned (.bool false) ∧ Below W.heap.size W w' := by
  have k := same5 e d W h h2
  rw [hf, hd, sane_r5.2.2] at k
  exact k
theorem wpList_load28g {ops : Array Oper} {rest : List Oper} {op : Oper} {a : Act} {W : World} {Q : Exit → Act → World → Prop} (x : Operand) (B : Nat) (e : FE) (F : FcAt W B e) (hw : Region.wanted op (yielded ops a.tmps) = true) (ho : op.op = .load 28 x)
    (hx : a.eval x = .pointer (some ⟨B, 0, none⟩)) (h : wpList Tryz.prog ops Q rest (a.put op.dst (.agg #[.int .i64 e.f.n, .int .i64 e.f.tm, .int .i64 e.f.kd, .int .i64 e.f.st, .string ⟨e.f.lg.toArray⟩, .int .i64 e.f.rv, .int .i64 e.f.bs, .string ⟨e.f.ti.toArray⟩, .string ⟨e.f.au.toArray⟩, .slice e.ta e.tn e.tc, .slice e.ba e.bn e.bc, .int .i64 e.f.lb.u, .slice e.la e.ln e.lc, .int .i64 e.f.lb.ap, .int .i64 e.f.lb.d, .int .i64 e.f.ed, .int .i64 e.f.bk, .int .i64 e.f.se, .string ⟨e.f.tx.toArray⟩, .string ⟨e.f.nm.toArray⟩, .int .i64 e.f.pt, .int .i64 e.f.cl, .int .i64 e.f.un])) W) : wpList Tryz.prog ops Q (op :: rest) a W := by
  show (if _ then _ else _)
  rw [if_pos hw]
  exact .inl (wp_load_row 28 x ho B hx 28 (elF e).toArray (0, 0) _ F Tryz.underlying28 rfl (by kernel_rfl) h)
set_option maxHeartbeats 16000000 in
theorem sane5 (w : World) : Calls Tryz.prog 10 #[] w fun r w' => r = .returned (.bool true) ∧ Below w.heap.size w w' := by
  go_enter Tryz.func10, Tryz.ntmps10
  go_wp2_with fail
  refine (kE1 w).mono ?_
  rintro r w1 ⟨rfl, b1⟩
  have B1 := Lib.hid b1
  clear b1
  go_wp2_with fail
  refine (kD1 w1).mono ?_
  rintro r w2 ⟨e1, rfl, hf1, hin1, b2⟩
  obtain ⟨W2, hW2⟩ : ∃ W2, W2 = w2.alloc (.cells #[.int .i64 e1.f.n, .int .i64 e1.f.tm, .int .i64 e1.f.kd, .int .i64 e1.f.st, .string ⟨e1.f.lg.toArray⟩, .int .i64 e1.f.rv, .int .i64 e1.f.bs, .string ⟨e1.f.ti.toArray⟩, .string ⟨e1.f.au.toArray⟩, .slice e1.ta e1.tn e1.tc, .slice e1.ba e1.bn e1.bc, .int .i64 e1.f.lb.u, .slice e1.la e1.ln e1.lc, .int .i64 e1.f.lb.ap, .int .i64 e1.f.lb.d, .int .i64 e1.f.ed, .int .i64 e1.f.bk, .int .i64 e1.f.se, .string ⟨e1.f.tx.toArray⟩, .string ⟨e1.f.nm.toArray⟩, .int .i64 e1.f.pt, .int .i64 e1.f.cl, .int .i64 e1.f.un] 28) := ⟨_, rfl⟩
  have F1 : Hid (FcAt W2 w2.heap.size e1) := Lib.hid (by rw [hW2]; exact heap_alloc_new w2 _)
  have O1 : Hid (FeOk W2 e1) := Lib.hid (by rw [hW2]; exact hin1.ok.over (below_alloc w2 _))
  have B2 : Hid (Below w.heap.size w W2) := Lib.hid (by rw [hW2]; exact bel2 (bel2 B1.out b2) (below_alloc w2 _))
  have HW2 := Lib.hid hW2
  have HF1 := Lib.hid hf1
  clear hW2 hf1 hin1 b2 B1
  go_wp2_with (refine wpList_store28 _ _ zE e1 rfl rfl rfl rfl ?_; rw [← HW2.out])
  refine (kD2 W2).mono ?_
  rintro r w3 ⟨e2, rfl, b3⟩
  obtain ⟨W3, hW3⟩ : ∃ W3, W3 = w3.alloc (.cells #[.int .i64 e2.f.n, .int .i64 e2.f.tm, .int .i64 e2.f.kd, .int .i64 e2.f.st, .string ⟨e2.f.lg.toArray⟩, .int .i64 e2.f.rv, .int .i64 e2.f.bs, .string ⟨e2.f.ti.toArray⟩, .string ⟨e2.f.au.toArray⟩, .slice e2.ta e2.tn e2.tc, .slice e2.ba e2.bn e2.bc, .int .i64 e2.f.lb.u, .slice e2.la e2.ln e2.lc, .int .i64 e2.f.lb.ap, .int .i64 e2.f.lb.d, .int .i64 e2.f.ed, .int .i64 e2.f.bk, .int .i64 e2.f.se, .string ⟨e2.f.tx.toArray⟩, .string ⟨e2.f.nm.toArray⟩, .int .i64 e2.f.pt, .int .i64 e2.f.cl, .int .i64 e2.f.un] 28) := ⟨_, rfl⟩
  have b3' : Below W2.heap.size W2 W3 := by rw [hW3]; exact bel2 b3 (below_alloc w3 _)
  have B3 := Lib.hid (bel2 B2.out b3')
  replace F1 := Lib.hid (F1.out.over b3')
  replace O1 := Lib.hid (O1.out.over b3')
  have HW3 := Lib.hid hW3
  clear hW3 b3 b3' B2 HW2
  go_wp2_with (refine wpList_store28 _ _ zE e2 rfl rfl rfl rfl ?_; rw [← HW3.out])
  refine (kD3 W3).mono ?_
  rintro r w4 ⟨e3, rfl, b4⟩
  obtain ⟨W4, hW4⟩ : ∃ W4, W4 = w4.alloc (.cells #[.int .i64 e3.f.n, .int .i64 e3.f.tm, .int .i64 e3.f.kd, .int .i64 e3.f.st, .string ⟨e3.f.lg.toArray⟩, .int .i64 e3.f.rv, .int .i64 e3.f.bs, .string ⟨e3.f.ti.toArray⟩, .string ⟨e3.f.au.toArray⟩, .slice e3.ta e3.tn e3.tc, .slice e3.ba e3.bn e3.bc, .int .i64 e3.f.lb.u, .slice e3.la e3.ln e3.lc, .int .i64 e3.f.lb.ap, .int .i64 e3.f.lb.d, .int .i64 e3.f.ed, .int .i64 e3.f.bk, .int .i64 e3.f.se, .string ⟨e3.f.tx.toArray⟩, .string ⟨e3.f.nm.toArray⟩, .int .i64 e3.f.pt, .int .i64 e3.f.cl, .int .i64 e3.f.un] 28) := ⟨_, rfl⟩
  have b4' : Below W3.heap.size W3 W4 := by rw [hW4]; exact bel2 b4 (below_alloc w4 _)
  have B4 := Lib.hid (bel2 B3.out b4')
  replace F1 := Lib.hid (F1.out.over b4')
  replace O1 := Lib.hid (O1.out.over b4')
  have HW4 := Lib.hid hW4
  clear hW4 b4 b4' B3 HW3
  go_wp2_with (refine wpList_store28 _ _ zE e3 rfl rfl rfl rfl ?_; rw [← HW4.out])
  refine (kE2 W4).mono ?_
  rintro r w5 ⟨rfl, b5⟩
  have B5 := Lib.hid (bel2 B4.out b5)
  replace F1 := Lib.hid (F1.out.over b5)
  replace O1 := Lib.hid (O1.out.over b5)
  clear b5 B4 HW4
  go_wp2_with fail
  refine (kV3 w5).mono ?_
  rintro r w6 ⟨rfl, b6⟩
  have B6 := Lib.hid (bel2 B5.out b6)
  replace F1 := Lib.hid (F1.out.over b6)
  replace O1 := Lib.hid (O1.out.over b6)
  clear b6 B5
  go_wp2_with fail
  refine (kV4 w6).mono ?_
  rintro r w7 ⟨rfl, b7⟩
  have B7 := Lib.hid (bel2 B6.out b7)
  replace F1 := Lib.hid (F1.out.over b7)
  replace O1 := Lib.hid (O1.out.over b7)
  clear b7 B6
  go_wp2_with fail
  refine (kV5 w7).mono ?_
  rintro r w8 ⟨rfl, b8⟩
  have b8' : Below w7.heap.size w7 w8 := b8
  have B8 := Lib.hid (bel2 B7.out b8')
  replace F1 := Lib.hid (F1.out.over b8')
  replace O1 := Lib.hid (O1.out.over b8')
  clear b8 b8' B7
  go_wp2_with fail
  refine (kR9 w8).mono ?_
  rintro r w9 ⟨e9, rfl, hf9, hin9, b9⟩
  obtain ⟨W9, hW9⟩ : ∃ W9, W9 = w9.alloc (.cells #[.int .i64 e9.f.n, .int .i64 e9.f.tm, .int .i64 e9.f.kd, .int .i64 e9.f.st, .string ⟨e9.f.lg.toArray⟩, .int .i64 e9.f.rv, .int .i64 e9.f.bs, .string ⟨e9.f.ti.toArray⟩, .string ⟨e9.f.au.toArray⟩, .slice e9.ta e9.tn e9.tc, .slice e9.ba e9.bn e9.bc, .int .i64 e9.f.lb.u, .slice e9.la e9.ln e9.lc, .int .i64 e9.f.lb.ap, .int .i64 e9.f.lb.d, .int .i64 e9.f.ed, .int .i64 e9.f.bk, .int .i64 e9.f.se, .string ⟨e9.f.tx.toArray⟩, .string ⟨e9.f.nm.toArray⟩, .int .i64 e9.f.pt, .int .i64 e9.f.cl, .int .i64 e9.f.un] 28) := ⟨_, rfl⟩
  have b9' : Below w8.heap.size w8 W9 := by rw [hW9]; exact bel2 b9 (below_alloc w9 _)
  have F9 : Hid (FcAt W9 w9.heap.size e9) := Lib.hid (by rw [hW9]; exact heap_alloc_new w9 _)
  have O9 : Hid (FeOk W9 e9) := Lib.hid (by rw [hW9]; exact hin9.ok.over (below_alloc w9 _))
  have B9 := Lib.hid (bel2 B8.out b9')
  replace F1 := Lib.hid (F1.out.over b9')
  replace O1 := Lib.hid (O1.out.over b9')
  have HW9 := Lib.hid hW9
  have HF9 := Lib.hid hf9
  clear hW9 hf9 hin9 b9 b9' B8
  go_wp2_with (first | (refine wpList_store28 _ _ zE e9 rfl rfl rfl rfl ?_; rw [← HW9.out]) | (refine wpList_load28 _ w9.heap.size e9 ?F rfl rfl rfl ?_; (case F => exact F9.out)))
  refine (kS1 W9 e9 O9.out HF9.out).mono ?_
  rintro r w10 ⟨rfl, b10⟩
  have B10 := Lib.hid (bel2 B9.out b10)
  replace F1 := Lib.hid (F1.out.over b10)
  replace O1 := Lib.hid (O1.out.over b10)
  replace F9 := Lib.hid (F9.out.over b10)
  replace O9 := Lib.hid (O9.out.over b10)
  have c0 : w10.cell? ⟨w2.heap.size, 0, none⟩ = some (.int .i64 2) := by rw [F1.out.cell 0]; show some (Value.int .i64 e1.f.n) = _; rw [HF1.out]; rfl
  have c3 : w10.cell? ⟨w2.heap.size, 3, none⟩ = some (.int .i64 5) := by rw [F1.out.cell 3]; show some (Value.int .i64 e1.f.st) = _; rw [HF1.out]; rfl
  clear b10 B9 HW9
  go_wp2_with (first | (refine wpList_load28g _ w2.heap.size e1 ?F (by kernel_rfl) rfl rfl ?_; (case F => exact F1.out)) | (refine wpList_load28g _ w9.heap.size e9 ?F (by kernel_rfl) rfl rfl ?_; (case F => exact F9.out)))
  refine (kS2 w10 e1 e9 O1.out HF1.out O9.out HF9.out).mono ?_
  rintro r w11 ⟨rfl, b11⟩
  have B11 := Lib.hid (bel2 B10.out b11)
  clear b11 B10 F1 O1 F9 O9 c0 c3
  go_wp2
  go_ret
  exact ⟨rfl, B11.out⟩
end Go.Proofs.YtlhcckjfgpcohaaGreatDoor
