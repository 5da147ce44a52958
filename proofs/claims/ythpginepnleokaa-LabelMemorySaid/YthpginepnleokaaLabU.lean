/- Concat of two slices, and what the sort and Compact leave of two lists of stories. -/
import Derived.Test.YthpginepnleokaaLabW5
import Derived.Test.YthpginepnleokaaShelf
import Derived.Sort.OwnSortedInts
import Derived.Lib.OwnBridge
import Derived.Lib.RowBridge
import Derived.Lib.SlicesCompact
import Derived.Lib.AppendZeros
import Derived.RegionTactic
import Derived.ChangeAlike
import Derived.BigRegion
import Derived.OwnWalk
import Derived.Deep.RegionWith
import Derived.Deep.RegionHeld3
import Derived.Deep.CutRange
import Derived.Laws.OwnMore
import Derived.Laws.AppendOwnNone
import Derived.Maps.AppendAt
import Derived.Lib.BufferWrite
import Derived.Lib.SmallJoins
namespace Go.Proofs.Ythpginepnleokaa
open Go.RowKit
theorem intInfo' : (Try.prog.info? 3).map (fun i => (i.zero, i.size, i.bytes)) = some (some (.int .i64 0), 1, 8) := by kernel_rfl
/-- Grow of the nil slice: room for n, nothing in it. -/
def Grown (n : Nat) (w : World) (e : Ending) (w' : World) : Prop := ∃ v, e = .returned v ∧ w'.ownsRow w.heap.size 3 1 v 0 [] ∧ (v = .slice none 0 0 → n = 0) ∧ Below w.heap.size w w'
set_option maxHeartbeats 1000000 in
theorem grow_any (n : Nat) (w : World) (hn : n ≤ 1000) : Calls Try.prog 40 #[.slice none 0 0, .int .i64 n] w (Grown n w) := by
  obtain ⟨i0, hi, hz0, hz1, hz2⟩ := info_parts intInfo'
  by_cases h0 : n = 0
  · subst h0
    go_enter Try.func40, Try.ntmps40
    go_wp2
    go_ret
    exact ⟨_, rfl, World.ownsRow_nil _ _ _ _, fun _ => rfl, Below.refl _ _⟩
  · have hrun := fun W => Lib.run_append_nil_zeros (P := Try.prog) W 23 3 23 3 i0 (.int .i64 0) .i64 .i64 Try.underlying23 Try.underlying3 hi hz0 n (by omega) (by omega) (by omega) (by rw [hz2]; omega)
    have HR := Lib.hid hrun
    have hp : 0 < n := by omega
    have hge := grownCap_ge w n 0 3
    clear hrun h0
    go_enter Try.func40, Try.ntmps40
    go_wp2_with (at_builtin; refine Lib.wpList_append_run _ rfl (.tmp 20) (.tmp 21) 23 3 rfl _ _ rfl rfl _ _ (HR.out _) ?_)
    go_ret
    refine ⟨_, rfl, ?_, fun h => (by simp at h), ((Below.refl _ _).alloc (Nat.le_refl _) _).drew⟩
    have hm := grownCap_le_maxLen w n 0 3 (by unfold maxLen; omega)
    have := World.ownsRow_made (base := w.heap.size) (e := 3) (size := 1) w (Builtin.zeroCells #[.int .i64 0] n ++ Builtin.zeroCells #[.int .i64 0] (grownCap w n 0 3 - n)) (grownCap w n 0 3) (Nat.le_refl _) hm (by simp [size_zeroCells]; omega)
    exact this
theorem append_none {P : Program} (w : World) (t ty e : TypeId) (i : TypeInfo) (size : Nat) (ht : P.underlying t = some (.slice e)) (hi : P.info? e = some i) (base : Nat)
    (v : Value) (n : Nat) (xs : List Value) (hown : w.ownsRow base e size v n xs) (c : Nat) : (Builtin.append_ #[t, t] ty #[v, .slice none 0 c]).run P w = .ok v w := by
  rcases hown.2 with ⟨rfl, rfl⟩ | ⟨g, cap, cur, rfl, _, _, hnc, _⟩
  · simp [Builtin.append_, run_underlying ht, sizeOf, typeInfo, hi, Builtin.lenOf, Builtin.firstCells]
  · simp [Builtin.append_, run_underlying ht, sizeOf, typeInfo, hi, Builtin.lenOf, Builtin.firstCells, hnc, storeCells]
/-- The two slices one behind the other, in new memory; nil where both are empty. -/
def Joined (xs ys : List Int) (w : World) (e : Ending) (w' : World) : Prop := ∃ v, e = .returned v ∧ w'.ownsRow w.heap.size 3 1 v (xs.length + ys.length) ((xs ++ ys).map (Value.int .i64)) ∧ (v = .slice none 0 0 → xs.length + ys.length = 0) ∧ Below w.heap.size w w'
theorem own_slice7 {w : World} {base : Nat} {e : TypeId} {size : Nat} {v : Value} {n : Nat} {xs : List Value} (h : w.ownsRow base e size v n xs) : ∃ a c, v = .slice a n c := by
  rcases h.2 with ⟨rfl, rfl⟩ | ⟨g, cap, cur, rfl, _⟩
  · exact ⟨_, _, rfl⟩
  · exact ⟨_, _, rfl⟩
theorem news_of {w : World} {a : Addr} {n c : Nat} {zs : List Int} (h : IsInts .i64 w (some a) n c zs) : ∀ j u, (zs.map (Value.int .i64))[j]? = some u → w.cell? (a.add j) = some u := by
  obtain ⟨hl, _, _, _, ha⟩ := h
  intro j u hu
  have hj : j < zs.length := by
    have := (List.getElem?_eq_some_iff.1 hu).1
    simpa using this
  rcases ha with h0 | ⟨b, off, e, hc⟩
  · omega
  · injection e with e
    subst e
    rw [add_at, hc j (by omega), ← hu]
    simp [List.getD, hj]
theorem one_cells (zs : List Int) : ∀ u ∈ zs.map (Value.int .i64), u.oneCell' = true := by
  intro u hu
  obtain ⟨z, _, rfl⟩ := List.mem_map.1 hu
  rfl
/-- append of a slice that reads as integers, nil or not, onto one that the call owns. -/
theorem run_append_ints (w : World) (base : Nat) (v : Value) (n : Nat) (xs : List Value) (hown : w.ownsRow base 3 1 v n xs) (a : Option Addr) (m c : Nat) (zs : List Int) (hz : IsInts .i64 w a m c zs) (h63 : n + m ≤ 100000) (hbase : base ≤ w.heap.size) :
    ∃ v' w', (Builtin.append_ #[23, 23] 23 #[v, .slice a m c]).run Try.prog w = .ok v' w' ∧ w'.ownsRow base 3 1 v' (n + m) (xs ++ zs.map (Value.int .i64)) ∧ w.grownBy w' v.ownBlock ∧ (v' = .slice none 0 0 → v = .slice none 0 0 ∧ m = 0) ∧ (v'.ownBlock = v.ownBlock ∨ v'.ownBlock = some w.heap.size) := by
  obtain ⟨i0, hi, hz0, hz1, hz2⟩ := info_parts intInfo'
  rcases a with _ | ad
  · have hm : m = 0 := by
      rcases hz.2.2.2.2 with h0 | ⟨b, off, e, _⟩
      · exact h0
      · cases e
    subst hm
    have hzn : zs = [] := List.eq_nil_of_length_eq_zero hz.1
    subst hzn
    exact ⟨v, w, append_none w 23 23 3 i0 1 Try.underlying23 hi base v n xs hown c, by simpa using hown, ⟨rfl, rfl, rfl, Nat.le_refl _, fun _ _ _ => rfl⟩, fun h => ⟨h, rfl⟩, .inl rfl⟩
  · obtain ⟨v', w', hr, h2, h3, h4, h5⟩ := run_append_own_at (P := Try.prog) w base 23 23 3 i0 (.int .i64 0) 1 8 Try.underlying23 hi hz0 hz1 hz2 rfl (by decide) v n xs hown ad m c (zs.map (Value.int .i64)) (by simpa using hz.1) (news_of hz) (one_cells zs) (by unfold maxLen; omega) (by omega) hbase
    exact ⟨v', w', hr, h2, h3, fun h => h4.1 h, h5⟩
theorem grownBy_own_below {w w' w0 : World} {base n : Nat} {e : TypeId} {size : Nat} {v : Value} {xs : List Value} (hb : Below base w0 w) (hown : w.ownsRow base e size v n xs) (hbase : base ≤ w.heap.size) (hg : w.grownBy w' v.ownBlock) : Below base w0 w' :=
  hb.grown hg hbase (fun k hk => (hown.lt k hk).1)
set_option maxRecDepth 100000 in
set_option maxHeartbeats 2000000 in
theorem concat_any (g : Nat) (a : Option Addr) (n c : Nat) (xs : List Int) (a2 : Option Addr) (n2 c2 : Nat) (ys : List Int) (w : World) (h1 : IsInts .i64 w a n c xs) (h2 : IsInts .i64 w a2 n2 c2 ys)
    (hg : w.heap[g]? = some (.cells #[.slice a n c, .slice a2 n2 c2] 23 (0, 0))) (hn : n ≤ 100) (hn2 : n2 ≤ 100) :
    Calls Try.prog 36 #[.slice (some ⟨g, 0, none⟩) 2 2] w (Joined xs ys w) := by
  obtain ⟨i0, hi, hz0, hz1, hz2⟩ := info_parts intInfo'
  have hl1 := h1.1
  have hl2 := h2.1
  have c0 : w.cell? ⟨g, 0, none⟩ = some (.slice a n c) := by rw [Joins.cell_of_block hg]; rfl
  have c1 : w.cell? ⟨g, 1, none⟩ = some (.slice a2 n2 c2) := by rw [Joins.cell_of_block hg]; rfl
  have H1 := Lib.hid h1
  have H2 := Lib.hid h2
  have HL1 := Lib.hid hl1
  have HL2 := Lib.hid hl2
  clear h1 h2 hl1 hl2 hg
  have hgb : g < w.heap.size := World.block_lt_of_cell? w _ c0
  go_enter Try.func36, Try.ntmps36
  go_wp2_with fail
  go_loop [11, 3, 5] (fun i s _ => ∃ k : Nat, k ≤ 2 ∧ i = .int .i64 k ∧ s = .int .i64 ((if k = 0 then 0 else if k = 1 then n else n + n2 : Nat) : Int)) (fun i _ _ => 2 - (intOf i).toNat)
  case atStart => exact ⟨0, by omega, rfl, rfl⟩
  case round =>
    obtain ⟨k, hk, rfl, rfl⟩ := hrel
    have hk3 : k = 0 ∨ k = 1 ∨ k = 2 := by omega
    rcases hk3 with rfl | rfl | rfl
    · go_wp2
      exact ⟨⟨1, by omega, rfl, by simp⟩, by simp [intOf]⟩
    · go_wp2
      exact ⟨⟨2, by omega, rfl, by simp⟩, by simp [intOf]⟩
    · have hs : ((if (2 : Nat) = 0 then 0 else if (2 : Nat) = 1 then n else n + n2 : Nat) : Int) = ((n + n2 : Nat) : Int) := by simp
      rw [hs]
      go_wp2_with fail
      refine (grow_any (n + n2) _ (by omega)).mono ?_
      rintro e w1 ⟨v, rfl, hown, hnil, b1⟩
      obtain ⟨hc, hf⟩ := bcell b1
      have HO := Lib.hid hown
      have HN := Lib.hid hnil
      clear hown hnil hs
      go_wp2_with fail
      go_loopw [27, 6, 8] (fun i v _ wr => ∃ k : Nat, k ≤ 2 ∧ i = .int .i64 k ∧ wr.ownsRow w.heap.size 3 1 v (if k = 0 then 0 else if k = 1 then n else n + n2) ((if k = 0 then [] else if k = 1 then xs else xs ++ ys).map (Value.int .i64)) ∧ Hid (v = .slice none 0 0 → n + n2 = 0) ∧ Below w.heap.size w wr) (fun i _ _ _ => 2 - (intOf i).toNat)
      case atStart => exact ⟨0, by omega, rfl, by simpa using HO.out, HN, b1⟩
      case round =>
        obtain ⟨k, hk, rfl, hown, hnil, bw⟩ := hrel
        have d0 := cellOver bw c0
        have d1 := cellOver bw c1
        have hk3 : k = 0 ∨ k = 1 ∨ k = 2 := by omega
        rcases hk3 with rfl | rfl | rfl
        · simp at hown
          obtain ⟨v', w2, hr, hown2, hg2, hn2', _⟩ := run_append_ints wr w.heap.size _ 0 _ hown a n c xs (H1.out.over bw) (by omega) bw.size
          have HR := Lib.hid hr
          have HO2 := Lib.hid hown2
          have HN2 := Lib.hid hn2'
          have B2 := grownBy_own_below bw hown bw.size hg2
          have HG2 := Lib.hid hg2
          clear hr hown2 hn2' hown hg2
          go_wp2_with (at_builtin; refine Lib.wpList_append_run _ rfl (.tmp 31) (.tmp 32) 23 23 rfl _ _ rfl rfl _ _ HR.out ?_)
          exact ⟨⟨1, by omega, rfl, by simpa using HO2.out, Lib.hid (fun h => hnil.out (HN2.out h).1), B2⟩, by simp [intOf]⟩
        · simp at hown
          obtain ⟨v', w2, hr, hown2, hg2, hn2', _⟩ := run_append_ints wr w.heap.size _ n _ hown a2 n2 c2 ys (H2.out.over bw) (by omega) bw.size
          have HR := Lib.hid hr
          have HO2 := Lib.hid hown2
          have HN2 := Lib.hid hn2'
          have B2 := grownBy_own_below bw hown bw.size hg2
          have HG2 := Lib.hid hg2
          clear hr hown2 hn2' hown hg2
          go_wp2_with (at_builtin; refine Lib.wpList_append_run _ rfl (.tmp 31) (.tmp 32) 23 23 rfl _ _ rfl rfl _ _ HR.out ?_)
          exact ⟨⟨2, by omega, rfl, by simpa using HO2.out, Lib.hid (fun h => hnil.out (HN2.out h).1), B2⟩, by simp [intOf]⟩
        · have HO2 := Lib.hid hown
          clear hown
          go_wp2
          go_ret
          exact ⟨_, rfl, by rw [HL1.out, HL2.out]; simpa using HO2.out, by rw [HL1.out, HL2.out]; exact hnil.out, bw⟩
theorem toArray_get (ts : List Int) (j : Nat) (h : j < ts.length) : ts.toArray[j]! = ts.getD j 0 := by
  rw [getElem!_pos _ _ (by simpa using h)]
  simp [List.getD, h]
theorem le_at {ts : List Int} (h : ts.Pairwise (· ≤ ·)) {i j : Nat} (hij : i ≤ j) (hj : j < ts.length) : ts.getD i 0 ≤ ts.getD j 0 := by
  by_cases e : i = j
  · rw [e]; exact Int.le_refl _
  · rw [List.pairwise_iff_getElem] at h
    have := h i j (by omega) hj (by omega)
    simpa [List.getD, show i < ts.length by omega, hj] using this
theorem compact_upTo (ts : List Int) (h : ts.Pairwise (· ≤ ·)) : ∀ m, m ≤ ts.length → (Lib.compactUpTo ts.toArray m).Pairwise (· < ·) ∧ ∀ z, z ∈ Lib.compactUpTo ts.toArray m ↔ ∃ j, j < m ∧ ts.getD j 0 = z := by
  intro m
  induction m with
  | zero => intro _; simp [Lib.compactUpTo]
  | succ m ih =>
    intro hm
    obtain ⟨h1, h2⟩ := ih (by omega)
    rw [Lib.compactUpTo_succ]
    have hk : Lib.keeps ts.toArray m = decide (m = 0 ∨ ts.getD m 0 ≠ ts.getD (m - 1) 0) := by
      unfold Lib.keeps
      rw [toArray_get ts m (by omega), toArray_get ts (m - 1) (by omega)]
    rw [hk, toArray_get ts m (by omega)]
    by_cases hc : m = 0 ∨ ts.getD m 0 ≠ ts.getD (m - 1) 0
    · simp only [hc, decide_true, if_true]
      constructor
      · rw [List.pairwise_append]
        refine ⟨h1, by simp, fun x hx y hy => ?_⟩
        rw [List.mem_singleton] at hy
        subst hy
        obtain ⟨j, hj, rfl⟩ := (h2 x).1 hx
        have a := le_at h (show j ≤ m - 1 by omega) (by omega)
        have b := le_at h (show m - 1 ≤ m by omega) (by omega)
        rcases hc with hc | hc
        · omega
        · omega
      · intro z
        rw [List.mem_append, h2, List.mem_singleton]
        constructor
        · rintro (⟨j, hj, e⟩ | e)
          · exact ⟨j, by omega, e⟩
          · exact ⟨m, by omega, e.symm⟩
        · rintro ⟨j, hj, e⟩
          by_cases ej : j = m
          · right; rw [← e, ej]
          · left; exact ⟨j, by omega, e⟩
    · simp only [hc, decide_false, Bool.false_eq_true, if_false, List.append_nil]
      refine ⟨h1, fun z => ?_⟩
      rw [h2]
      constructor
      · rintro ⟨j, hj, e⟩; exact ⟨j, by omega, e⟩
      · rintro ⟨j, hj, e⟩
        by_cases ej : j = m
        · subst ej
          have hc' : ¬ j = 0 ∧ ts.getD j 0 = ts.getD (j - 1) 0 := by
            constructor
            · intro e0; exact hc (.inl e0)
            · exact Classical.byContradiction fun e0 => hc (.inr e0)
          exact ⟨j - 1, by omega, by rw [← hc'.2, e]⟩
        · exact ⟨j, by omega, e⟩
theorem compact_sorted (ts : List Int) (h : ts.Pairwise (· ≤ ·)) : (Lib.compact ts).Pairwise (· < ·) ∧ ∀ z, z ∈ Lib.compact ts ↔ z ∈ ts := by
  obtain ⟨h1, h2⟩ := compact_upTo ts h ts.length (Nat.le_refl _)
  refine ⟨h1, fun z => (h2 z).trans ⟨?_, fun hz => ?_⟩⟩
  · rintro ⟨j, hj, rfl⟩; exact getD_mem hj
  · obtain ⟨i, hi, rfl⟩ := List.getElem_of_mem hz
    exact ⟨i, hi, by simp [List.getD, hi]⟩
/-- What slices.Sort and slices.Compact leave of two lists of stories. -/
theorem union_eq (xs ys : List Int) (hx : ∀ z ∈ xs, 1 ≤ z ∧ z ≤ 64) (hy : ∀ z ∈ ys, 1 ≤ z ∧ z ≤ 64) : Lib.compact ((xs ++ ys).mergeSort fun x y => decide (x ≤ y)) = uni xs ys := by
  have hp : ((xs ++ ys).mergeSort fun x y => decide (x ≤ y)).Pairwise (· ≤ ·) := by
    have := List.pairwise_mergeSort (le := fun x y : Int => decide (x ≤ y)) (fun a b c h1 h2 => by simp at *; omega) (fun a b => by simp; omega) (xs ++ ys)
    exact this.imp (by intro a b h; simpa using h)
  obtain ⟨h1, h2⟩ := compact_sorted _ hp
  refine asc_ext h1 (uni_asc _ _) fun z => ?_
  rw [h2, uni_mem, List.mem_mergeSort, List.mem_append]
  constructor
  · intro h
    refine ⟨?_, h⟩
    rcases h with h | h
    · exact hx z h
    · exact hy z h
  · exact fun h => h.2
end Go.Proofs.Ythpginepnleokaa
