import Derived.Test.YtelipjjjlgnjoaaGreatDoorBlkF
import Derived.SizedLaws
namespace Go.Proofs.YtelipjjjlgnjoaaGreatDoor
open Go.ChangeShapes Go.WideShapes Go.ChangeAt Go.RowKit Go.Deep
set_option maxRecDepth 100000
set_option linter.unusedVariables false
section
variable {H : Type} {enc : TypeId × Value → H} {w : World} {b0 base : Nat} {spare : Nat → Bool} {held : Bool}
theorem open_intsS {P : Program} {t e : TypeId} {k : IntKind} {fuel : Nat} {cs : List Value} {x : DataW H × List MemPlace} (ht : P.underlying t = some (.slice e)) (he : P.underlying e = some (.int k)) (hc : P.cellsOf e = 1)
    (hf : DataW.trod enc P w base spare held fuel t cs = some x) : ∃ (a : Option Addr) (n c : Nat) (zs : List Int), cs = [.slice a n c] ∧ IsInts k w a n c zs ∧ ∀ B, (x.1.weights P t).all (· ≤ B) = true → zs.length * P.bytesOf e ≤ B := by
  rcases ChangeShapes.open_ints ht he hc hf with ⟨h1, _⟩ | ⟨a1, n1, c1, zs, h1, _, hn, hm, hz, hx, hcell, hwf⟩
  · exact ⟨none, 0, 0, [], h1, ⟨rfl, Nat.le_refl _, by unfold maxLen; omega, (fun z hz => by cases hz), Or.inl rfl⟩, fun B _ => by simp⟩
  · have hle : n1 ≤ zs.length := by rw [hz]; split <;> omega
    refine ⟨some a1, n1, c1, zs.take n1, h1, ⟨by simp; omega, hn, hm, fun z h => hwf z (List.mem_of_mem_take h), ?_⟩, fun B hB => ?_⟩
    rotate_left
    · rw [hx] at hB
      have hB2 := List.all_eq_true.1 hB (((lits k (zs.take n1) : List (DataW H)).length + (lits k (zs.drop n1) : List (DataW H)).length) * P.bytesOf e) (by simp [DataW.weights, ht])
      have h3 : (zs.take n1).length ≤ (lits k (zs.take n1) : List (DataW H)).length + (lits k (zs.drop n1) : List (DataW H)).length := by simp [lits]
      exact Nat.le_trans (Nat.mul_le_mul_right _ h3) (by simpa using hB2)
    rcases Nat.eq_zero_or_pos n1 with h0 | h0
    · exact .inl h0
    · have hs := World.cell?_spot (hcell 0 (by omega))
      obtain ⟨b, off, spot⟩ := a1
      obtain rfl : spot = none := by simpa [Addr.add] using hs
      exact .inr ⟨b, off, rfl, fun i hi => by rw [getD_take _ _ _ _ hi, ← add_at]; exact hcell i (by omega)⟩
theorem open_blockW {fuel : Nat} {cs : List Value} {x : DataW H × List MemPlace} (h : DataW.trod enc Tryz.prog w base spare held fuel 39 cs = some x) : ∃ e : BE, cs = elB e ∧ BeOk w e ∧ ∀ B, (x.1.weights Tryz.prog 39).all (· ≤ B) = true → e.1.lb.af.length * 8 ≤ B := by
  obtain ⟨xs, m, _, hxx, hl, hn, hel⟩ := DataW.trod_struct Tryz.underlying39 h
  rw [cells26] at hl
  match cs, hl with
  | [v0, v1, v2, v3, v4, v5, v6, v7, v8], _ =>
    match xs, hn with
    | [x0, x1, x2, x3, x4, x5], _ =>
      have e0 : DataW.trod enc Tryz.prog w base spare held m 3 [v0] = some x0 := by
        have q : DataW.trod enc Tryz.prog w base spare held m 3 (([v0, v1, v2, v3, v4, v5, v6, v7, v8].drop 0).take (Tryz.prog.cellsOf 3)) = some x0 := hel 0 _ rfl
        rw [cellsI] at q
        exact q
      have e1 : DataW.trod enc Tryz.prog w base spare held m 3 [v1] = some x1 := by
        have q : DataW.trod enc Tryz.prog w base spare held m 3 (([v0, v1, v2, v3, v4, v5, v6, v7, v8].drop 1).take (Tryz.prog.cellsOf 3)) = some x1 := hel 1 _ rfl
        rw [cellsI] at q
        exact q
      have e2 : DataW.trod enc Tryz.prog w base spare held m 9 [v2] = some x2 := by
        have q : DataW.trod enc Tryz.prog w base spare held m 9 (([v0, v1, v2, v3, v4, v5, v6, v7, v8].drop 2).take (Tryz.prog.cellsOf 9)) = some x2 := hel 2 _ rfl
        rw [cells9] at q
        exact q
      have e3 : DataW.trod enc Tryz.prog w base spare held m 3 [v3] = some x3 := by
        have q : DataW.trod enc Tryz.prog w base spare held m 3 (([v0, v1, v2, v3, v4, v5, v6, v7, v8].drop 3).take (Tryz.prog.cellsOf 3)) = some x3 := hel 3 _ rfl
        rw [cellsI] at q
        exact q
      have e4 : DataW.trod enc Tryz.prog w base spare held m 3 [v4] = some x4 := by
        have q : DataW.trod enc Tryz.prog w base spare held m 3 (([v0, v1, v2, v3, v4, v5, v6, v7, v8].drop 4).take (Tryz.prog.cellsOf 3)) = some x4 := hel 4 _ rfl
        rw [cellsI] at q
        exact q
      have e5 : DataW.trod enc Tryz.prog w base spare held m 37 [v5, v6, v7, v8] = some x5 := by
        have q : DataW.trod enc Tryz.prog w base spare held m 37 (([v0, v1, v2, v3, v4, v5, v6, v7, v8].drop 5).take (Tryz.prog.cellsOf 37)) = some x5 := hel 5 _ rfl
        rw [cells24] at q
        exact q
      obtain ⟨i0, h0, d0⟩ := bd_int e0
      obtain ⟨i1, h1, d1⟩ := bd_int e1
      obtain ⟨s, h2, _, d2⟩ := DataW.trod_string Tryz.underlying9 e2
      obtain ⟨i3, h3, d3⟩ := bd_int e3
      obtain ⟨i4, h4, d4⟩ := bd_int e4
      obtain ⟨ys, m', _, hyy, hl', hn', hel'⟩ := DataW.trod_struct Tryz.underlying37 e5
      match ys, hn' with
      | [y0, y1, y2, y3], _ =>
        have f0 : DataW.trod enc Tryz.prog w base spare held m' 3 [v5] = some y0 := by
          have q : DataW.trod enc Tryz.prog w base spare held m' 3 (([v5, v6, v7, v8].drop 0).take (Tryz.prog.cellsOf 3)) = some y0 := hel' 0 _ rfl
          rw [cellsI] at q
          exact q
        have f1 : DataW.trod enc Tryz.prog w base spare held m' 25 [v6] = some y1 := by
          have q : DataW.trod enc Tryz.prog w base spare held m' 25 (([v5, v6, v7, v8].drop 1).take (Tryz.prog.cellsOf 25)) = some y1 := hel' 1 _ rfl
          rw [cells22] at q
          exact q
        have f2 : DataW.trod enc Tryz.prog w base spare held m' 3 [v7] = some y2 := by
          have q : DataW.trod enc Tryz.prog w base spare held m' 3 (([v5, v6, v7, v8].drop 2).take (Tryz.prog.cellsOf 3)) = some y2 := hel' 2 _ rfl
          rw [cellsI] at q
          exact q
        have f3 : DataW.trod enc Tryz.prog w base spare held m' 3 [v8] = some y3 := by
          have q : DataW.trod enc Tryz.prog w base spare held m' 3 (([v5, v6, v7, v8].drop 3).take (Tryz.prog.cellsOf 3)) = some y3 := hel' 3 _ rfl
          rw [cellsI] at q
          exact q
        obtain ⟨j0, g0, k0⟩ := bd_int f0
        obtain ⟨a, n, c, zs, g1, k1, kw⟩ := open_intsS Tryz.underlying25 Tryz.underlying3 cellsI f1
        obtain ⟨j2, g2, k2⟩ := bd_int f2
        obtain ⟨j3, g3, k3⟩ := bd_int f3
        simp at h0 h1 h2 h3 h4 g0 g1 g2 g3
        subst h0 h1 h2 h3 h4 g0 g1 g2 g3
        refine ⟨(⟨i0, i1, s.data.toList, i3, i4, ⟨j0, zs, j2, j3⟩⟩, a, n, c), by simp [elB], ⟨⟨k1, k0, k2, k3⟩, by simpa using d2, d0, d1, d3, d4⟩, fun B hB => ?_⟩
        have h25 : (y1.1.weights Tryz.prog 25).all (· ≤ B) = true := by
          rw [List.all_eq_true] at hB ⊢
          intro z hz
          refine hB z ?_
          rw [hxx]
          simp only [DataW.weights, Tryz.underlying39, List.map_cons, List.map_nil, DataW.weightsEach, List.mem_append]
          have : z ∈ x5.1.weights Tryz.prog 37 := by
            rw [hyy]
            simp only [DataW.weights, Tryz.underlying37, List.map_cons, List.map_nil, DataW.weightsEach, List.mem_append]
            simp [hz]
          simp [this]
        have := kw B h25
        rwa [show Tryz.prog.bytesOf 3 = 8 by kernel_rfl] at this
theorem weightsAll_mem {H : Type} {P : Program} {e : TypeId} {d : DataW H} : ∀ {l : List (DataW H)}, d ∈ l → ∀ {z : Nat}, z ∈ d.weights P e → z ∈ DataW.weightsAll P e l
  | x :: l, h, z, hz => by
    simp only [DataW.weightsAll, List.mem_append]
    rcases List.mem_cons.1 h with rfl | h
    · exact .inl hz
    · exact .inr (weightsAll_mem h hz)
theorem open_blksW {r : Reach} {v : Value} {d : DataW H} {p : List MemPlace} (hv : Value.okWide Tryz.prog w r b0 22 v) (h : DataW.Trod enc Tryz.prog w base spare held 22 v d p) :
    ∃ (a : Option Addr) (n c : Nat) (es : List BE), v = .slice a n c ∧ IsBlks w a n c es ∧ ∀ B, (d.weights Tryz.prog 22).all (· ≤ B) = true → ∀ e ∈ es, e.1.lb.af.length * 8 ≤ B := by
  obtain ⟨a, n, c, rfl⟩ := WideShapes.okWide_slice Tryz.underlying22 hv
  obtain ⟨fuel, hf⟩ := h
  refine ⟨a, n, c, ?_⟩
  rcases open_slice Tryz.underlying22 hf with ⟨h1, _⟩ | ⟨a1, n1, c1, m, fu, D, Pl, h1, _, hn, hm, hz, hx, hcell⟩
  · simp [Value.cells] at h1
    obtain ⟨rfl, rfl, rfl⟩ := h1
    exact ⟨[], rfl, ⟨rfl, Nat.le_refl _, by unfold maxLen; omega, (fun z hz => by cases hz), Or.inl rfl⟩, fun B _ e he => by cases he⟩
  · simp [Value.cells] at h1
    obtain ⟨rfl, rfl, rfl⟩ := h1
    have hle : n ≤ m := by rw [hz]; split <;> omega
    rw [cells26] at hcell
    have hall : ∀ i, i < n → ∃ e : BE, (BeOk w e ∧ ∀ B, ((D i).weights Tryz.prog 39).all (· ≤ B) = true → e.1.lb.af.length * 8 ≤ B) ∧ ∀ j v, (elB e)[j]? = some v → w.cell? ((a1.add (i * 9)).add j) = some v := by
      intro i hi
      obtain ⟨cs', hc, ht⟩ := hcell i (by omega)
      obtain ⟨e, rfl, hok, hwt⟩ := open_blockW ht
      obtain ⟨_, hlen, hg⟩ := World.cells?_some hc
      refine ⟨e, ⟨hok, hwt⟩, fun j v hj => ?_⟩
      rw [hg j (by rw [← hlen]; exact (List.getElem?_eq_some_iff.1 hj).1)]
      exact hj
    haveI : Inhabited BE := ⟨(⟨0, 0, [], 0, 0, ⟨0, [], 0, 0⟩⟩, none, 0, 0)⟩
    obtain ⟨f, hf'⟩ := choose_lt hall
    refine ⟨(List.range n).map f, rfl, ⟨by simp, hn, hm, fun e he => ?_, ?_⟩, fun B hB e he => ?_⟩
    rotate_left 2
    · obtain ⟨i, hi, rfl⟩ := List.mem_map.1 he
      refine (hf' i (List.mem_range.1 hi)).1.2 B ?_
      rw [List.all_eq_true] at hB ⊢
      intro z hz
      refine hB z ?_
      rw [(Prod.mk.inj hx).1]
      have hm := weightsAll_mem (e := 39) (P := Tryz.prog) (List.mem_map.2 ⟨i, hi, rfl⟩ : D i ∈ (List.range n).map D) hz
      simp [DataW.weights, Tryz.underlying22, hm]
    · obtain ⟨i, hi, rfl⟩ := List.mem_map.1 he
      exact (hf' i (List.mem_range.1 hi)).1.1
    · rcases Nat.eq_zero_or_pos n with h0 | h0
      · exact .inl h0
      · have hs := World.cell?_spot ((hf' 0 h0).2 0 _ rfl)
        obtain ⟨b, off, spot⟩ := a1
        obtain rfl : spot = none := by simpa [Addr.add] using hs
        refine .inr ⟨b, off, rfl, fun k e he j v hv => ?_⟩
        rw [List.getElem?_map] at he
        by_cases hk : k < n
        · rw [List.getElem?_range hk] at he
          simp at he
          subst he
          have := (hf' k hk).2 j v hv
          rw [add_at, add_at] at this
          exact this
        · rw [List.getElem?_eq_none (by simp; omega)] at he
          simp at he
end
end Go.Proofs.YtelipjjjlgnjoaaGreatDoor
