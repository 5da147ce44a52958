import Derived.Test.YtelipjjjlgnjoaaGreatDoorMgA
import Derived.Lib.AppendZeros
import Derived.Lib.RowBridge
import Derived.Lib.OwnBridge
import Derived.Lib.SmallJoins
namespace Go.Proofs.YtelipjjjlgnjoaaGreatDoor
open Go.RowKit Go.MapKept Go.Shelf
set_option maxRecDepth 100000
set_option linter.unusedSimpArgs false
set_option linter.unusedVariables false
theorem put9_own {w : World} {base : Nat} {t : TypeId} {size : Nat} {v : Value} {n : Nat} {xs : List Value} {g : Nat} (e : BE) (h : w.ownsRow base t size v n xs) (hg : g < base) : (put9 w g e).ownsRow base t size v n xs := by
  unfold put9
  iterate 9 refine ownsRow_setCell_below (ha := by exact hg) ?_ _
  exact h
theorem intInfo' : (Tryz.prog.info? 3).map (fun i => (i.zero, i.size, i.bytes)) = some (some (.int .i64 0), 1, 8) := by kernel_rfl
theorem append_none {P : Program} (w : World) (t ty e : TypeId) (i : TypeInfo) (size : Nat) (ht : P.underlying t = some (.slice e)) (hi : P.info? e = some i) (base : Nat)
    (v : Value) (n : Nat) (xs : List Value) (hown : w.ownsRow base e size v n xs) (c : Nat) : (Builtin.append_ #[t, t] ty #[v, .slice none 0 c]).run P w = .ok v w := by
  rcases hown.2 with ⟨rfl, rfl⟩ | ⟨g, cap, cur, rfl, _, _, hnc, _⟩
  · simp [Builtin.append_, run_underlying ht, sizeOf, typeInfo, hi, Builtin.lenOf, Builtin.firstCells]
  · simp [Builtin.append_, run_underlying ht, sizeOf, typeInfo, hi, Builtin.lenOf, Builtin.firstCells, hnc, storeCells]
theorem news_of {w : World} {a : Addr} {n c : Nat} {zs : List Int} (h : IsInts .i64 w (some a) n c zs) : ∀ j u, (zs.map (Value.int .i64))[j]? = some u → w.cell? (a.add j) = some u := by
  obtain ⟨hl, _, _, _, ha⟩ := h
  intro j u hu
  have hj : j < zs.length := by
    have := (List.getElem?_eq_some_iff.1 hu).1
    simpa using this
  rcases ha with h0 | ⟨b, off, e, hc⟩
  · omega
  · injection e with e
    subst e
    rw [add_at, hc j (by omega), ← hu]
    simp [List.getD, hj]
theorem one_cells (zs : List Int) : ∀ u ∈ zs.map (Value.int .i64), u.oneCell' = true := by
  intro u hu
  obtain ⟨z, _, rfl⟩ := List.mem_map.1 hu
  rfl
/-- append of a slice that reads as integers, nil or not, onto one that the call owns. -/
theorem run_append_ints (w : World) (base : Nat) (v : Value) (n : Nat) (xs : List Value) (hown : w.ownsRow base 3 1 v n xs) (a : Option Addr) (m c : Nat) (zs : List Int) (hz : IsInts .i64 w a m c zs) (h63 : n + m ≤ 100000) (hbase : base ≤ w.heap.size) :
    ∃ v' w', (Builtin.append_ #[25, 25] 25 #[v, .slice a m c]).run Tryz.prog w = .ok v' w' ∧ w'.ownsRow base 3 1 v' (n + m) (xs ++ zs.map (Value.int .i64)) ∧ w.grownBy w' v.ownBlock ∧ (v' = .slice none 0 0 → v = .slice none 0 0 ∧ m = 0) ∧ (v'.ownBlock = v.ownBlock ∨ v'.ownBlock = some w.heap.size) := by
  obtain ⟨i0, hi, hz0, hz1, hz2⟩ := info_parts intInfo'
  rcases a with _ | ad
  · have hm : m = 0 := by
      rcases hz.2.2.2.2 with h0 | ⟨b, off, e, _⟩
      · exact h0
      · cases e
    subst hm
    have hzn : zs = [] := List.eq_nil_of_length_eq_zero hz.1
    subst hzn
    exact ⟨v, w, append_none w 25 25 3 i0 1 Tryz.underlying25 hi base v n xs hown c, by simpa using hown, ⟨rfl, rfl, rfl, Nat.le_refl _, fun _ _ _ => rfl⟩, fun h => ⟨h, rfl⟩, .inl rfl⟩
  · obtain ⟨v', w', hr, h2, h3, h4, h5⟩ := run_append_own_at (P := Tryz.prog) w base 25 25 3 i0 (.int .i64 0) 1 8 Tryz.underlying25 hi hz0 hz1 hz2 rfl (by decide) v n xs hown ad m c (zs.map (Value.int .i64)) (by simpa using hz.1) (news_of hz) (one_cells zs) (by unfold maxLen; omega) (by omega) hbase
    exact ⟨v', w', hr, h2, h3, fun h => h4.1 h, h5⟩
theorem grownBy_own_below {w w' w0 : World} {base n : Nat} {e : TypeId} {size : Nat} {v : Value} {xs : List Value} (hb : Below base w0 w) (hown : w.ownsRow base e size v n xs) (hbase : base ≤ w.heap.size) (hg : w.grownBy w' v.ownBlock) : Below base w0 w' :=
  hb.grown hg hbase (fun k hk => (hown.lt k hk).1)
set_option maxHeartbeats 4000000 in
theorem detached_any (e : BE) (w : World) (h : BeOk w e) (hl : e.1.lb.af.length ≤ 1000) :
    Calls Tryz.prog 54 #[bv e] w fun x w' => ∃ a c, x = .returned (bv (e.1, a, e.1.lb.af.length, c)) ∧ w'.ownsRow w.heap.size 3 1 (.slice a e.1.lb.af.length c) e.1.lb.af.length (e.1.lb.af.map (Value.int .i64)) ∧ Below w.heap.size w w' := by
  have hget := allocs_get w [.cells (elB e).toArray 39 (0, 0), .cells (elB beZ).toArray 39 (0, 0)]
  have hbw := allocs_below w [.cells (elB e).toArray 39 (0, 0), .cells (elB beZ).toArray 39 (0, 0)] w (Below.refl _ _)
  obtain ⟨W1, hW1⟩ : ∃ W1, allocs w [.cells (elB e).toArray 39 (0, 0), .cells (elB beZ).toArray 39 (0, 0)] = W1 := ⟨_, rfl⟩
  rw [hW1] at hget hbw
  have G0 := Lib.hid (show W1.heap[w.heap.size]? = some (.cells (elB e).toArray 39 (0, 0)) from hget 0)
  have G1 := Lib.hid (show W1.heap[w.heap.size + 1]? = some (.cells (elB beZ).toArray 39 (0, 0)) from hget 1)
  have B1 := Lib.hid hbw
  have hn : e.2.2.1 = e.1.lb.af.length := h.1.1.1.symm
  obtain ⟨v', w2, hr, ho, hg, hnil, _⟩ := run_append_ints W1 (w.heap.size + 1 + 1) (.slice none 0 0) 0 [] (World.ownsRow_nil _ _ _ _) e.2.1 e.2.2.1 e.2.2.2 e.1.lb.af (h.1.1.over hbw) (by omega) (by have := (Array.getElem?_eq_some_iff.1 G1.out).1; exact this)
  have B2 := Lib.hid (grownBy_own_below hbw (World.ownsRow_nil W1 w.heap.size 3 1) hbw.size hg)
  have H0 := Lib.hid ((hg.block w.heap.size (Array.getElem?_eq_some_iff.1 G0.out).1 (fun q => by cases q)).trans G0.out)
  have H1 := Lib.hid ((hg.block (w.heap.size + 1) (Array.getElem?_eq_some_iff.1 G1.out).1 (fun q => by cases q)).trans G1.out)
  rw [hn, Nat.zero_add, List.nil_append] at ho
  obtain ⟨a, c, rfl⟩ := own_slice ho
  have HR := Lib.hid hr
  have HO := Lib.hid ho
  have HN := Lib.hid hn
  clear hget hbw h hr ho hg hnil hn hl
  have c6 := (nine_of H0.out).2.2.2.2.2.2.1
  have u6 := Joins.unfrozen_of_block H0.out 6
  have K0 : Hid ((w2.setCell ⟨w.heap.size, 6, none⟩ (.slice a e.1.lb.af.length c)).heap[w.heap.size]? = some (.cells (elB (e.1, a, e.1.lb.af.length, c)).toArray 39 (0, 0))) := Lib.hid (Joins.block_setCell H0.out _)
  have K1 : Hid ((w2.setCell ⟨w.heap.size, 6, none⟩ (.slice a e.1.lb.af.length c)).heap[w.heap.size + 1]? = some (.cells (elB beZ).toArray 39 (0, 0))) := Lib.hid ((Below.heap_setCell w2 ⟨w.heap.size, 6, none⟩ _ (w.heap.size + 1) (by simp)).trans H1.out)
  obtain ⟨s0, s1, s2, s3, s4, s5, s6, s7, s8⟩ := nine_of K0.out
  obtain ⟨r0, r1, r2, r3, r4, r5, r6, r7, r8⟩ := nine_of K1.out
  have f0 := Joins.unfrozen_of_block K1.out 0
  have f1 := Joins.unfrozen_of_block K1.out 1
  have f2 := Joins.unfrozen_of_block K1.out 2
  have f3 := Joins.unfrozen_of_block K1.out 3
  have f4 := Joins.unfrozen_of_block K1.out 4
  have f5 := Joins.unfrozen_of_block K1.out 5
  have f6 := Joins.unfrozen_of_block K1.out 6
  have f7 := Joins.unfrozen_of_block K1.out 7
  have f8 := Joins.unfrozen_of_block K1.out 8
  simp only [allocs, List.foldl_cons, List.foldl_nil, elB, beZ] at hW1
  subst hW1
  unfold bv blkV
  go_enter Tryz.func54, Tryz.ntmps54
  go_wp2_with (at_builtin; refine Lib.wpList_append_run _ rfl _ _ 25 25 rfl _ _ rfl rfl _ _ HR.out ?_)
  clear s0 s1 s2 s3 s4 s5 s6 s7 s8 r0 r1 r2 r3 r4 r5 r6 r7 r8 f0 f1 f2 f3 f4 f5 f6 f7 f8
  obtain ⟨p0, p1, p2, p3, p4, p5, p6, p7, p8⟩ := nine_of (put9_block (e := (e.1, a, e.1.lb.af.length, c)) K1.out)
  refine (?_ : bodyPost _ _ _ _ _ (put9 (w2.setCell ⟨w.heap.size, 6, none⟩ (.slice a e.1.lb.af.length c)) (w.heap.size + 1) (e.1, a, e.1.lb.af.length, c)))
  refine bodyPost_ret (v := bv (e.1, a, e.1.lb.af.length, c)) (by simp [results, Tryz.results54, go_sem, bv, blkV, p0, p1, p2, p3, p4, p5, p6, p7, p8]) rfl ⟨a, c, rfl, ?_, put9_below _ (B2.out.setCell (p := ⟨w.heap.size, 6, none⟩) (Nat.le_refl _) _) (by omega)⟩
  exact own_mono (put9_own _ (ownsRow_setCell_below (a := ⟨w.heap.size, 6, none⟩) HO.out (by simp; omega) _) (by omega)) (by omega)
end Go.Proofs.YtelipjjjlgnjoaaGreatDoor
