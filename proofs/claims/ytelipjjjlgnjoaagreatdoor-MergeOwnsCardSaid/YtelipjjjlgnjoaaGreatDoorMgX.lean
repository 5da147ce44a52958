import Derived.Test.YtelipjjjlgnjoaaGreatDoorMgW
import Derived.Test.YtelipjjjlgnjoaaGreatDoorRefVList
namespace Go.Proofs.YtelipjjjlgnjoaaGreatDoor
open Go.RowKit Go.MapKept Go.Shelf
set_option maxRecDepth 100000
set_option linter.unusedSimpArgs false
set_option linter.unusedVariables false
theorem mergeR_none {p a b : List Blk} (h : v3 p a b = false) : mergeR p a b = ([], [], 40) := by unfold mergeR; rw [h]; rfl
theorem occ_of {p a b : List Blk} {i : Int} (h : i ∈ idsA p a b) : occI p a b i = true := by
  unfold occI
  rcases (idsA_mem i).1 h with h | h | h
  · rw [List.contains_iff_mem.2 h]; rfl
  · rw [List.contains_iff_mem.2 h]; simp
  · rw [List.contains_iff_mem.2 h]; simp
theorem occ_has (p a b : List Blk) : (iota.filter (occI p a b)).filter (hasM p a b) = iota.filter (hasM p a b) := by
  rw [List.filter_filter]
  refine List.filter_congr (fun i _ => ?_)
  cases h : hasM p a b i
  · simp
  · rw [occ_of (has_occurs h)]; rfl
theorem occ_cfl (p a b : List Blk) : (iota.filter (occI p a b)).filter (cfl p a b) = iota.filter (cfl p a b) := by
  rw [List.filter_filter]
  refine List.filter_congr (fun i _ => ?_)
  cases h : cfl p a b i
  · simp
  · rw [occ_of (cfl_occurs h)]; rfl
theorem take_yes {f : Int → Bool} {l : List Int} {k : Nat} {i : Int} (h : l[k]? = some i) (hf : f i = true) : (l.take (k + 1)).filter f = (l.take k).filter f ++ [i] := by
  rw [take_snoc h, List.filter_append]; simp [hf]
theorem take_no {f : Int → Bool} {l : List Int} {k : Nat} {i : Int} (h : l[k]? = some i) (hf : f i = false) : (l.take (k + 1)).filter f = (l.take k).filter f := by
  rw [take_snoc h, List.filter_append]; simp [hf]
section
variable {p a b : List Blk}
theorem fm_take : ∀ (o : List Int) (n : Nat), (∀ i ∈ o, hasM p a b i = true) → (o.filterMap (mrg p a b)).take n = (o.take n).filterMap (mrg p a b)
  | [], n, _ => by simp
  | i :: o, 0, _ => by simp
  | i :: o, n + 1, h => by
    obtain ⟨x, hx⟩ := Option.isSome_iff_exists.1 (h i List.mem_cons_self)
    rw [List.filterMap_cons_some hx, List.take_succ_cons, List.take_succ_cons, List.filterMap_cons_some hx, fm_take o n (fun j hj => h j (List.mem_cons_of_mem _ hj))]
theorem fm_drop : ∀ (o : List Int) (n : Nat), (∀ i ∈ o, hasM p a b i = true) → (o.filterMap (mrg p a b)).drop n = (o.drop n).filterMap (mrg p a b)
  | [], n, _ => by simp
  | i :: o, 0, _ => by simp
  | i :: o, n + 1, h => by
    obtain ⟨x, hx⟩ := Option.isSome_iff_exists.1 (h i List.mem_cons_self)
    rw [List.filterMap_cons_some hx, List.drop_succ_cons, List.drop_succ_cons, fm_drop o n (fun j hj => h j (List.mem_cons_of_mem _ hj))]
/-- The reference's list in the making: the state of the order, and where the last one stands. -/
def P3 (p a b : List Blk) (L F : List Int) (rs : List BE) (last : Int) (n : Nat) : Prop :=
  ∃ o, F.foldl (ordS (hasM p a b)) (L.filter (hasM p a b), 0) = (o, n) ∧ blks rs = o.filterMap (mrg p a b) ∧ bids (blks rs) = o ∧ atV o last + 1 = (n : Int) ∧ n ≤ rs.length
theorem p3_len {p a b : List Blk} {L F : List Int} {rs : List BE} {last : Int} {n : Nat} (h : P3 p a b L F rs last n) : atV (bids (blks rs)) last + 1 = (n : Int) ∧ n ≤ rs.length := by
  obtain ⟨o, h1, h2, h3, h4, h5⟩ := h
  rw [h3]; exact ⟨h4, h5⟩
theorem p3_start {L : List Int} {rs : List BE} (hL : ∀ i ∈ L, 1 ≤ i) (h : blks rs = (L.filter (hasM p a b)).filterMap (mrg p a b)) : P3 p a b L [] rs (-1) 0 := by
  refine ⟨_, rfl, h, ?_, ?_, Nat.zero_le _⟩
  · rw [h]; exact ids_filterMap _ (fun i hi => (List.mem_filter.1 hi).2)
  · rw [atV_none (idxI_none.2 (fun hm => by have := hL _ (List.mem_filter.1 hm).1; omega))]; rfl
theorem p3_no {L F : List Int} {rs : List BE} {last i : Int} {n : Nat} (hL : L.Nodup) (h : P3 p a b L F rs last n) (hi : hasM p a b i = false) : P3 p a b L (F ++ [i]) rs last n := by
  obtain ⟨o, h1, h2, h3, h4, h5⟩ := h
  have hI := ordL_inv (hasM p a b) hL F
  rw [h1] at hI
  refine ⟨o, ?_, h2, h3, h4, h5⟩
  rw [List.foldl_append, h1]
  show ordS _ (o, n) i = _
  unfold ordS
  rw [idxI_none.2 (fun hm => by have := ((hI.mem i).1 hm).1; rw [hi] at this; cases this)]
  simp [hi]
theorem p3_in {L F : List Int} {rs : List BE} {last i : Int} {n : Nat} (hL : L.Nodup) (h : P3 p a b L F rs last n) (hi : hasM p a b i = true) (hl : i ∈ L) : ∃ m, P3 p a b L (F ++ [i]) rs i m := by
  obtain ⟨o, h1, h2, h3, h4, h5⟩ := h
  have hI := ordL_inv (hasM p a b) hL F
  rw [h1] at hI
  have hio : i ∈ o := (hI.mem i).2 ⟨hi, .inl hl⟩
  obtain ⟨k, hk⟩ := Option.isSome_iff_exists.1 (idxI_isSome.2 hio)
  refine ⟨k + 1, o, ?_, h2, h3, ?_, ?_⟩
  · rw [List.foldl_append, h1]
    show ordS _ (o, n) i = _
    unfold ordS
    rw [hk]
  · rw [atV_some hk]; rfl
  · have := idxI_lt hk
    rw [← h3, bids_len] at this; omega
theorem p3_new {L F : List Int} {rs : List BE} {last i : Int} {n : Nat} {e : BE} (hL : L.Nodup) (h : P3 p a b L F rs last n) (hi : hasM p a b i = true) (hl : i ∉ L) (hF : i ∉ F) (he : mrg p a b i = some e.1) : P3 p a b L (F ++ [i]) (rs.take n ++ e :: rs.drop n) i (n + 1) := by
  obtain ⟨o, h1, h2, h3, h4, h5⟩ := h
  have hI := ordL_inv (hasM p a b) hL F
  rw [h1] at hI
  have hio : i ∉ o := fun hm => by
    rcases ((hI.mem i).1 hm).2 with q | q
    · exact hl q
    · exact hF q
  have hall : ∀ j ∈ o, hasM p a b j = true := fun j hj => ((hI.mem j).1 hj).1
  have hb : blks (rs.take n ++ e :: rs.drop n) = (insA o n i).filterMap (mrg p a b) := by
    unfold insA
    rw [List.filterMap_append, List.filterMap_cons_some he, ← fm_take _ _ hall, ← fm_drop _ _ hall, ← h2]
    simp [blks]
  have hall2 : ∀ j ∈ insA o n i, hasM p a b j = true := fun j hj => by
    rcases insA_mem.1 hj with rfl | hj
    · exact hi
    · exact hall j hj
  have hol : n ≤ o.length := hI.le
  refine ⟨insA o n i, ?_, hb, ?_, ?_, ?_⟩
  · rw [List.foldl_append, h1]
    show ordS _ (o, n) i = _
    unfold ordS
    rw [idxI_none.2 hio]
    simp [hi]
  · rw [hb]; exact ids_filterMap _ hall2
  · have hat : (insA o n i)[n]? = some i := by
      unfold insA
      rw [List.getElem?_append_right (by rw [List.length_take]; omega), List.length_take, Nat.min_eq_left hol]
      simp
    rw [atV_some (idxI_of hat (fun j hj => by
      unfold insA
      rw [List.getElem?_append_left (by rw [List.length_take]; omega)]
      intro hc
      exact hio (List.mem_of_mem_take (List.mem_of_getElem? hc))))]
    rfl
  · simp; omega
end
end Go.Proofs.YtelipjjjlgnjoaaGreatDoor
