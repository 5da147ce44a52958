/- Package fact: lists of fields in memory; slices.Concat of them. -/
import Derived.Test.YtlhcckjfgpcohaaGreatDoorFctF
import Derived.Test.YtlhcckjfgpcohaaGreatDoorBlkO
import Derived.Maps.AppendAt
import Derived.Lib.AppendZeros
namespace Go.Proofs.YtlhcckjfgpcohaaGreatDoor
open Go.RowKit
set_option maxRecDepth 100000
set_option linter.unusedSimpArgs false
set_option linter.unusedVariables false
abbrev V3 : Type := Value × Value × Value
def trV (v : V3) : List Value := [v.1, v.2.1, v.2.2]
def One3 (v : V3) : Prop := v.1.oneCell' = true ∧ v.2.1.oneCell' = true ∧ v.2.2.oneCell' = true
/-- A block that no coder writes. -/
def RowOk (W : World) (b : Nat) : Prop := ∃ (cs : Array Value) (t : {t : Nat // TyOk t}) (fr : Nat × Nat), W.heap[b]? = some (.cells cs t.1 fr)
theorem rowOk_of {W : World} {b t : Nat} {cs : Array Value} {fr : Nat × Nat} (ht : TyOk t) (h : W.heap[b]? = some (.cells cs t fr)) : RowOk W b := ⟨cs, ⟨t, ht⟩, fr, h⟩
theorem RowOk.lt {W : World} {b : Nat} (h : RowOk W b) : b < W.heap.size := by
  obtain ⟨cs, t, fr, h⟩ := h
  exact (Array.getElem?_eq_some_iff.1 h).1
theorem RowOk.over {W W' : World} {b : Nat} (hb : Below W.heap.size W W') (h : RowOk W b) : RowOk W' b := by
  obtain ⟨cs, t, fr, h⟩ := h
  exact ⟨cs, t, fr, blockOver hb h⟩
/-- A slice of fields, at least one. -/
def IsTr (W : World) (a : Option Addr) (n c : Nat) (vs : List V3) : Prop :=
  vs.length = n ∧ n ≤ c ∧ c ≤ maxLen ∧ (∀ v ∈ vs, One3 v) ∧ ∃ b off, a = some ⟨b, off, none⟩ ∧ RowOk W b ∧ ∀ k v, vs[k]? = some v → ∀ j u, (trV v)[j]? = some u → W.cell? ⟨b, off + k * 3 + j, none⟩ = some u
theorem IsTr.over {W W' : World} {a : Option Addr} {n c : Nat} {vs : List V3} (hb : Below W.heap.size W W') (h : IsTr W a n c vs) : IsTr W' a n c vs := by
  obtain ⟨h1, h2, h3, h4, b, off, e, h6, h5⟩ := h
  exact ⟨h1, h2, h3, h4, b, off, e, h6.over hb, fun k v hk j u hu => cellOver hb (h5 k v hk j u hu)⟩
theorem flat3_len : ∀ (vs : List V3), (vs.flatMap trV).length = vs.length * 3
  | [] => rfl
  | v :: vs => by rw [List.flatMap_cons, List.length_append, flat3_len vs, List.length_cons]; simp [trV]; omega
theorem flat3_get : ∀ (vs : List V3) (m : Nat) (u : Value), (vs.flatMap trV)[m]? = some u → ∃ k j v, m = k * 3 + j ∧ vs[k]? = some v ∧ (trV v)[j]? = some u
  | [], m, u, h => by simp at h
  | v :: vs, m, u, h => by
    rw [List.flatMap_cons] at h
    by_cases hm : m < 3
    · rw [List.getElem?_append_left (by simpa [trV] using hm)] at h
      exact ⟨0, m, v, by omega, rfl, h⟩
    · rw [List.getElem?_append_right (by simp [trV]; omega)] at h
      obtain ⟨k, j, v', e, h1, h2⟩ := flat3_get vs _ u h
      simp [trV] at e
      exact ⟨k + 1, j, v', by omega, by simpa using h1, h2⟩
theorem flat3_at {vs : List V3} {k : Nat} {v : V3} (h : vs[k]? = some v) : ∀ j u, (trV v)[j]? = some u → (vs.flatMap trV)[k * 3 + j]? = some u := by
  induction vs generalizing k with
  | nil => simp at h
  | cons x l ih =>
    intro j u hu
    have hj : j < 3 := by have := (List.getElem?_eq_some_iff.1 hu).1; simpa [trV] using this
    cases k with
    | zero =>
      simp only [List.getElem?_cons_zero, Option.some.injEq] at h
      subst h
      rw [List.flatMap_cons, List.getElem?_append_left (by simp [trV]; omega)]
      simpa using hu
    | succ k =>
      simp only [List.getElem?_cons_succ] at h
      rw [List.flatMap_cons, List.getElem?_append_right (by simp [trV]; omega)]
      rw [← ih h j u hu]
      congr 1
      simp [trV]; omega
theorem tr_of_own {W : World} {base : Nat} {a : Option Addr} {n c : Nat} {vs : List V3} (h : W.ownsRow base 67 3 (.slice a n c) n (vs.flatMap trV)) (h0 : 0 < n) (ho : ∀ v ∈ vs, One3 v) : IsTr W a n c vs := by
  have hl : vs.length = n := by have := h.1; rw [flat3_len] at this; omega
  have h' := h
  obtain ⟨h1, ⟨h2, h3⟩ | ⟨g, cap, cur, h2, h3, h4, h5, h6, h7, h8⟩⟩ := h'
  · omega
  · have e1 : a = some ⟨g, 0, none⟩ ∧ c = cap := by simpa using h2
    obtain ⟨rfl, rfl⟩ := e1
    refine ⟨hl, h5, h6, ho, g, 0, rfl, rowOk_of (by decide) h4, fun k v hk j u hu => ?_⟩
    have hk' : k < vs.length := (List.getElem?_eq_some_iff.1 hk).1
    have hj : j < 3 := by have := (List.getElem?_eq_some_iff.1 hu).1; simpa [trV] using this
    rw [Nat.zero_add, h.cellAt (k * 3 + j) (by omega)]
    exact flat3_at hk j u hu
theorem fldInfo : (Tryz.prog.info? 67).map (fun i => (i.zero, i.size, i.bytes)) = some (some (.agg #[.nilFunc, .nilFunc, .nilFunc]), 3, 24) := by kernel_rfl
set_option maxHeartbeats 2000000 in
theorem grow5 (n : Nat) (h0 : 0 < n) (hn : n ≤ 1000) (w : World) :
    Calls Tryz.prog 53 #[.slice none 0 0, .int .i64 (n : Int)] w fun e w' => ∃ a c, e = .returned (.slice a 0 c) ∧ w'.ownsRow w.heap.size 67 3 (.slice a 0 c) 0 [] ∧ Below w.heap.size w w' := by
  obtain ⟨i0, hi, hz0, hz1, hz2⟩ := info_parts fldInfo
  have hr := fun W => Lib.run_append_nil_zeros (P := Tryz.prog) W 60 3 60 67 i0 _ .i64 .i64 Tryz.underlying60 Tryz.underlying3 hi hz0 n h0 (by rw [hz1]; decide) (by omega) (by rw [hz2]; omega)
  have HR := Lib.hid hr
  have q0 : (0 : Int) < n := by omega
  clear hr
  go_enter Tryz.func53, Tryz.ntmps53
  go_wp2_with (at_builtin; refine Lib.wpList_append_run _ rfl _ _ 60 3 rfl _ _ rfl rfl _ _ (HR.out _) ?_)
  go_ret
  have hge := grownCap_ge w n 0 67
  refine ⟨_, _, rfl, ⟨by simp, .inr ⟨w.heap.size, grownCap w n 0 67, _, rfl, Nat.le_refl _, heap_alloc_new w _, Nat.zero_le _, grownCap_le_maxLen w n 0 67 (by unfold maxLen; omega), ?_, by simp⟩⟩, (below_alloc w _).drew⟩
  simp [size_zeroCells]
  omega
/-- One slice for Concat: where it lies, and what it holds. -/
structure Part where
  a : Option Addr
  n : Nat
  c : Nat
  vs : List V3
def Part.val (x : Part) : Value := .slice x.a x.n x.c
def cat (LL : List Part) : List V3 := LL.flatMap Part.vs
theorem cat_snoc (LL : List Part) (k : Nat) (x : Part) (h : LL[k]? = some x) : cat (LL.take (k + 1)) = cat (LL.take k) ++ x.vs := by
  obtain ⟨hk, rfl⟩ := List.getElem?_eq_some_iff.1 h
  unfold cat
  rw [List.take_succ_eq_append_getElem hk, List.flatMap_append, List.flatMap_cons, List.flatMap_nil, List.append_nil]
def lensP (LL : List Part) : Nat := (LL.map Part.n).sum
theorem lens_snoc (LL : List Part) (k : Nat) (x : Part) (h : LL[k]? = some x) : lensP (LL.take (k + 1)) = lensP (LL.take k) + x.n := by
  obtain ⟨hk, rfl⟩ := List.getElem?_eq_some_iff.1 h
  unfold lensP
  rw [List.take_succ_eq_append_getElem hk, List.map_append, List.sum_append]
  rfl
theorem cat_len : ∀ (LL : List Part), (∀ x ∈ LL, x.vs.length = x.n) → (cat LL).length = lensP LL
  | [], _ => rfl
  | x :: LL, h => by
    have := cat_len LL (fun y hy => h y (List.mem_cons_of_mem _ hy))
    unfold cat lensP at this ⊢
    rw [List.flatMap_cons, List.length_append, this, h x List.mem_cons_self]
    simp
theorem lens_le {LL : List Part} {B : Nat} (h : ∀ x ∈ LL, x.n ≤ B) (k : Nat) : lensP (LL.take k) ≤ k * B := by
  induction k with
  | zero => simp [lensP]
  | succ k ih =>
    by_cases hk : k < LL.length
    · rw [lens_snoc LL k _ (List.getElem?_eq_getElem hk), Nat.succ_mul]
      have := h _ (List.getElem_mem hk)
      omega
    · have : LL.take (k + 1) = LL.take k := by rw [List.take_of_length_le (by omega), List.take_of_length_le (by omega)]
      rw [this, Nat.succ_mul]; omega
set_option maxHeartbeats 4000000 in
theorem concat5 (g m c : Nat) (LL : List Part) (w : World) (hm : LL.length = m) (h0 : 0 < m) (hm10 : m ≤ 10) (hc : ∀ i x, LL[i]? = some x → w.cell? ⟨g, i, none⟩ = some x.val) (hx : ∀ x ∈ LL, IsTr w x.a x.n x.c x.vs ∧ 0 < x.n ∧ x.n ≤ 50) (hg : g < w.heap.size) :
    Calls Tryz.prog 24 #[.slice (some ⟨g, 0, none⟩) m c] w fun e w' => ∃ a c', e = .returned (.slice a (lensP LL) c') ∧ w'.ownsRow w.heap.size 67 3 (.slice a (lensP LL) c') (lensP LL) ((cat LL).flatMap trV) ∧ Below w.heap.size w w' := by
  have HM := Lib.hid hm
  have HC := Lib.hid hc
  have HX := Lib.hid hx
  have HLE := Lib.hid (fun k => lens_le (LL := LL) (B := 50) (fun x hx' => (hx x hx').2.2) k)
  have hpos : 0 < lensP LL := by
    obtain ⟨x, hx0⟩ : ∃ x, LL[0]? = some x := ⟨LL[0]'(by omega), List.getElem?_eq_getElem _⟩
    have h1 := lens_snoc LL 0 x hx0
    have h2 : lensP LL = lensP (LL.take m) := by rw [← hm, List.take_length]
    have h3 := (hx x (List.mem_of_getElem? hx0)).2.1
    have h4 : ∀ d, lensP (LL.take 1) ≤ lensP (LL.take (1 + d)) := by
      intro d
      induction d with
      | zero => exact Nat.le_refl _
      | succ d ih =>
        refine Nat.le_trans ih ?_
        by_cases hk : 1 + d < LL.length
        · have := lens_snoc LL (1 + d) _ (List.getElem?_eq_getElem hk)
          rw [← Nat.add_assoc]
          omega
        · have : LL.take (1 + (d + 1)) = LL.take (1 + d) := by rw [List.take_of_length_le (by omega), List.take_of_length_le (by omega)]
          rw [this]
          exact Nat.le_refl _
    have h5 := h4 (m - 1)
    rw [show 1 + (m - 1) = m by omega] at h5
    rw [Nat.zero_add] at h1
    rw [h2]; omega
  have HTOT := Lib.hid (show lensP LL = lensP (LL.take m) by rw [← hm, List.take_length])
  have HCAT := Lib.hid (show cat LL = cat (LL.take m) by rw [← hm, List.take_length])
  have HVS := Lib.hid (fun k => cat_len (LL.take k) (fun x hx' => (hx x (List.mem_of_mem_take hx')).1.1))
  obtain ⟨i0, hi, hz0, hz1, hz2⟩ := info_parts fldInfo
  clear hm hc hx
  generalize lensP LL = N at hpos HTOT ⊢
  go_enter Tryz.func24, Tryz.ntmps24
  go_wp2_with fail
  go_loop [11, 3] (fun i t => ∃ k : Nat, k ≤ m ∧ i = .int .i64 k ∧ t = .int .i64 (lensP (LL.take k) : Nat)) (fun i _ => m - (intOf i).toNat)
  case atStart => exact ⟨0, Nat.zero_le _, rfl, rfl⟩
  case round =>
    obtain ⟨k, hk, rfl, rfl⟩ := hrel
    by_cases hlt : k < m
    · obtain ⟨x, hxk⟩ : ∃ x, LL[k]? = some x := ⟨LL[k]'(by rw [HM.out]; exact hlt), List.getElem?_eq_getElem _⟩
      have hcx := HC.out k x hxk
      have HS := Lib.hid (lens_snoc LL k x hxk)
      have hl1 := HLE.out k
      have hl2 := (HX.out x (List.mem_of_getElem? hxk)).2.2
      unfold Part.val at hcx
      clear hxk
      generalize lensP (LL.take k) = L0 at *
      have hb : L0 ≤ 1000 := by have : k * 50 ≤ 10 * 50 := Nat.mul_le_mul_right _ (by omega); omega
      clear hl1
      go_wp2
      go_round
      case rel => exact ⟨k + 1, by omega, by go_num, by rw [HS.out]; go_num⟩
      case measure => simp [intOf]; omega
    · obtain rfl : m = k := by omega
      rw [← HTOT.out]
      have hb : N ≤ 1000 := by have := HLE.out m; rw [← HTOT.out] at this; have : m * 50 ≤ 10 * 50 := Nat.mul_le_mul_right _ (by omega); omega
      have KG := Lib.hid (grow5 N hpos hb w)
      go_wp2_with fail
      refine KG.out.mono ?_
      rintro e w1 ⟨a1, c1, rfl, o1, b1⟩
      have O1 := Lib.hid o1
      have B1 := Lib.hid b1
      clear o1 b1 KG
      go_wp2_with fail
      go_loopw [27, 6] (fun i v wr => ∃ k : Nat, k ≤ m ∧ i = .int .i64 k ∧ Hid (wr.ownsRow w.heap.size 67 3 v (lensP (LL.take k)) ((cat (LL.take k)).flatMap trV)) ∧ Hid (Below w.heap.size w wr)) (fun i _ _ => m - (intOf i).toNat)
      case atStart => exact ⟨0, Nat.zero_le _, rfl, O1, B1⟩
      case round =>
        obtain ⟨k, hk, rfl, hown, hb1⟩ := hrel
        obtain ⟨va, vc, rfl⟩ := own_slice hown.out
        by_cases hlt : k < m
        · obtain ⟨x, hxk⟩ : ∃ x, LL[k]? = some x := ⟨LL[k]'(by rw [HM.out]; exact hlt), List.getElem?_eq_getElem _⟩
          have hcx := cellOver hb1.out (HC.out k x hxk)
          have HS := Lib.hid (lens_snoc LL k x hxk)
          have HCS := Lib.hid (cat_snoc LL k x hxk)
          obtain ⟨⟨x1, x2, x3, x4, bb, off, e5, x6, x7⟩, xp, xq⟩ := HX.out x (List.mem_of_getElem? hxk)
          have hl1 := HLE.out k
          unfold Part.val at hcx
          rw [e5] at hcx
          generalize lensP (LL.take k) = L0 at *
          have hb2 : L0 ≤ 500 := by have : k * 50 ≤ 10 * 50 := Nat.mul_le_mul_right _ (by omega); omega
          have hn3 : (x.vs.flatMap trV).length = x.n * 3 := by rw [flat3_len, x1]
          have hnews : ∀ j u, (x.vs.flatMap trV)[j]? = some u → wr.cell? ((⟨bb, off, none⟩ : Addr).add j) = some u := by
            intro j u hu
            obtain ⟨k', j', v, rfl, h1, h2⟩ := flat3_get _ _ _ hu
            rw [add_at, ← Nat.add_assoc]
            exact cellOver hb1.out (x7 k' v h1 j' u h2)
          have hone : ∀ u ∈ x.vs.flatMap trV, u.oneCell' = true := by
            intro u hu
            obtain ⟨v, hv, hu⟩ := List.mem_flatMap.1 hu
            have := x4 v hv
            simp only [trV, List.mem_cons, List.not_mem_nil, or_false] at hu
            rcases hu with rfl | rfl | rfl
            · exact this.1
            · exact this.2.1
            · exact this.2.2
          obtain ⟨v', w2, hr, ho, hgr, -, -⟩ := run_append_own_at (P := Tryz.prog) wr w.heap.size 60 60 67 i0 _ 3 24 Tryz.underlying60 hi hz0 hz1 hz2 rfl (by decide) (.slice va L0 vc) L0 _ hown.out ⟨bb, off, none⟩ x.n x.c (x.vs.flatMap trV) hn3 hnews hone (by unfold maxLen; omega) (by omega) hb1.out.size
          obtain ⟨a', c', rfl⟩ := own_slice ho
          have HR := Lib.hid hr
          have HO := Lib.hid ho
          have HB2 := Lib.hid (hb1.out.grown hgr hb1.out.size (fun q hq => (hown.out.lt q hq).1))
          clear hr ho hgr hxk x1 x2 x3 x4 x6 x7 hl1 hn3 hnews hone e5 hown
          go_wp2_with (at_builtin; refine Lib.wpList_append_run _ rfl _ _ 60 60 rfl _ _ rfl rfl _ _ HR.out ?_)
          go_wp2
          go_roundw
          case rel => exact ⟨k + 1, by omega, by go_num, Lib.hid (by rw [HS.out, HCS.out, List.flatMap_append]; exact HO.out), HB2⟩
          case measure => simp [intOf]; omega
        · obtain rfl : m = k := by omega
          have HO := Lib.hid (show wr.ownsRow w.heap.size 67 3 (.slice va (lensP (LL.take m)) vc) (lensP (LL.take m)) ((cat LL).flatMap trV) by rw [HCAT.out]; exact hown.out)
          rw [← HTOT.out] at HO ⊢
          clear hown HTOT
          go_wp2
          go_ret
          exact ⟨va, vc, rfl, HO.out, hb1.out⟩
end Go.Proofs.YtlhcckjfgpcohaaGreatDoor
