import Derived.Test.YtlhcckjfgpcohaaGreatDoorBlkE1
namespace Go.Proofs.YtlhcckjfgpcohaaGreatDoor
open Go.RowKit Go.MapKept
set_option maxRecDepth 100000
set_option linter.unusedSimpArgs false
set_option linter.unusedVariables false
theorem isB_block {B b : Nat} {l : List UInt8} {w : World} (h : IsB B b l w) : ∃ cs, w.heap[b]? = some (.cells cs 54 (0, 0)) := by
  rcases h with ⟨_, v, hb, _⟩ | ⟨_, v, hb, _⟩
  · exact ⟨_, hb⟩
  · exact ⟨_, hb⟩
/-- A block of another type stands behind a writer. -/
theorem Put.kept {B b g t : Nat} {l l' : List UInt8} {w w' : World} {cs : Array Value} {fr : Nat × Nat} (hI : IsB B b l w) (h : Put B b l' w w') (hg : w.heap[g]? = some (.cells cs t fr)) (h5 : t ≠ 5) (h65 : t ≠ 54) : w'.heap[g]? = some (.cells cs t fr) := by
  refine h.2.2 g _ hg ?_ ?_
  · intro e
    cases e
    obtain ⟨cs', hb⟩ := isB_block hI
    rw [hb] at hg
    cases hg
    exact h65 rfl
  · intro c fz e
    cases e
    exact h5 rfl
theorem put_ints {B b g : Nat} {l : List UInt8} {W : World} {fr : Nat × Nat} (zs : List Int) (hz : ∀ z ∈ zs, okInt z = true) (hl : zs.length ≤ 1000) (hI : IsB B b l W) (hg : W.heap[g]? = some (.cells (zs.map (Value.int .i64)).toArray 3 fr)) :
    ∀ l' W', Put B b l' W W' → IsInts .i64 W' (some ⟨g, 0, none⟩) zs.length zs.length zs := fun l' W' h =>
  block_ints zs (fun z hz' => by have := (okInt_iff z).1 (hz z hz'); unfold Bd; omega) hl (h.kept hI hg (by decide) (by decide))
theorem encS_len {t : List UInt8} (h : t.length ≤ 65536) : (encS t).length ≤ 65545 := by unfold encS; rw [List.length_append]; have := encInt_len (t.length : Int); omega
theorem new_block (w : World) (o : Obj) : (w.alloc o).heap[w.heap.size]? = some o := heap_alloc_new w o
theorem puti_lit {B b g n : Nat} {l : List UInt8} {w W : World} (zs : List Int) (cs : Array Value) (hcs : cs = (zs.map (Value.int .i64)).toArray) (hn : zs.length = n) (hz : ∀ z ∈ zs, okInt z = true) (hn' : n ≤ 1000) (hB : B ≤ w.heap.size) (hl : l.length ≤ 1000000) (hP : Put B b l w W) (hg : g = W.heap.size) :
    Calls Tryz.prog 174 #[.pointer (some ⟨b, 0, none⟩), .func (.func 172) #[] #[], .slice (some ⟨g, 0, none⟩) n n] (W.alloc (.cells cs 3)) fun x w' => x = .returned (.tuple #[]) ∧ Put B b (l ++ zs.flatMap encInt) w w' ∧ (∀ (g' t : Nat) (c : Array Value) (fr : Nat × Nat), t ≠ 5 → t ≠ 54 → W.heap[g']? = some (Obj.cells c t fr) → w'.heap[g']? = some (Obj.cells c t fr)) := by
  subst hg hn hcs
  have hW := hP.alloc hB (.cells (zs.map (Value.int .i64)).toArray 3)
  have hBW : B ≤ W.heap.size := Nat.le_trans hB hP.2.1.size
  refine (puti_any B b l (some ⟨W.heap.size, 0, none⟩) zs.length zs.length zs _ hW.1 (by simp; omega) hl hn' hz (put_ints zs hz (by omega) hW.1 (new_block W _))).mono ?_
  rintro x w' ⟨rfl, hp⟩
  refine ⟨rfl, hW.trans hp, fun g' t c fr h5 h65 h => ?_⟩
  exact hp.kept hW.1 ((Below.heap_alloc _ _ _ (Array.getElem?_eq_some_iff.1 h).1).trans h) h5 h65
theorem puts_lit {B b g : Nat} {l t : List UInt8} {w W : World} (ht : t.length ≤ 65536) (hB : B ≤ w.heap.size) (hl : l.length ≤ 1000000) (hP : Put B b l w W) (hg : g = W.heap.size) :
    Calls Tryz.prog 180 #[.pointer (some ⟨b, 0, none⟩), .func (.func 173) #[] #[], .slice (some ⟨g, 0, none⟩) 1 1] (W.alloc (.cells #[.string ⟨t.toArray⟩] 9)) fun x w' => x = .returned (.tuple #[]) ∧ Put B b (l ++ encS t) w w' ∧ (∀ (g' t : Nat) (c : Array Value) (fr : Nat × Nat), t ≠ 5 → t ≠ 54 → W.heap[g']? = some (Obj.cells c t fr) → w'.heap[g']? = some (Obj.cells c t fr)) := by
  subst hg
  have hW := hP.alloc hB (.cells #[.string ⟨t.toArray⟩] 9)
  have hBW : B ≤ W.heap.size := Nat.le_trans hB hP.2.1.size
  refine (puts_any B b l t W.heap.size _ hW.1 (by simp; omega) hl ht (by rw [Joins.cell_of_block (new_block W _)]; rfl)).mono ?_
  rintro x w' ⟨rfl, hp⟩
  refine ⟨rfl, hW.trans hp, fun g' t c fr h5 h65 h => ?_⟩
  exact hp.kept hW.1 ((Below.heap_alloc _ _ _ (Array.getElem?_eq_some_iff.1 h).1).trans h) h5 h65
theorem puti_old {B b n c : Nat} {a : Option Addr} {l : List UInt8} {w W : World} (zs : List Int) (hz : ∀ z ∈ zs, okInt z = true) (hn' : n ≤ 1000) (hB : B ≤ w.heap.size) (hl : l.length ≤ 1000000) (hP : Put B b l w W)
    (hv : ∀ W', Below B w W' → IsInts .i64 W' a n c zs) :
    Calls Tryz.prog 174 #[.pointer (some ⟨b, 0, none⟩), .func (.func 172) #[] #[], .slice a n c] W fun x w' => x = .returned (.tuple #[]) ∧ Put B b (l ++ zs.flatMap encInt) w w' ∧ (∀ (g' t : Nat) (c : Array Value) (fr : Nat × Nat), t ≠ 5 → t ≠ 54 → W.heap[g']? = some (Obj.cells c t fr) → w'.heap[g']? = some (Obj.cells c t fr)) := by
  refine (puti_any B b l a n c zs _ hP.1 (Nat.le_trans hB hP.2.1.size) hl hn' hz (fun l' W' h => hv W' (hP.2.1.trans h.2.1))).mono ?_
  rintro x w' ⟨rfl, hp⟩
  exact ⟨rfl, hP.trans hp, fun g' t c fr h5 h65 h => hp.kept hP.1 h h5 h65⟩
set_option maxHeartbeats 4000000 in
theorem putblock_any (B b : Nat) (l : List UInt8) (e : BE) (w : World) (hI : IsB B b l w) (hBw : B ≤ w.heap.size) (hl : l.length ≤ 900000) (hok : okB e.1)
    (hv : ∀ W', Below B w W' → IsInts .i64 W' e.2.1 e.2.2.1 e.2.2.2 e.1.lb.af) :
    Calls Tryz.prog 175 #[.pointer (some ⟨b, 0, none⟩), blkV e.1 e.2.1 e.2.2.1 e.2.2.2] w fun x w' => x = .returned (.tuple #[]) ∧ Put B b (l ++ encB e.1) w w' := by
  obtain ⟨o1, o2, o3, o4, o5, o6, ⟨o7, o8⟩, o9, o10⟩ := hok
  have hafl := (hv w (Below.refl _ _)).1
  have hnc := (hv w (Below.refl _ _)).2.1
  have hcm := (hv w (Below.refl _ _)).2.2.1
  have HV := Lib.hid hv
  have O8 := Lib.hid o8
  have HAF := Lib.hid hafl
  have hn64 : e.2.2.1 ≤ 64 := by omega
  have okn : okInt (e.2.2.1 : Int) = true := by rw [okInt_iff]; omega
  have B0 := below_alloc w (.cells (elB e).toArray 49)
  have HB := Lib.hid (new_block w (.cells (elB e).toArray 49))
  have P0 := Lib.hid ((Put.refl hI).alloc hBw (.cells (elB e).toArray 49))
  unfold maxLen at hcm
  clear hv o8 hafl hI B0
  unfold blkV
  go_enter Tryz.func175, Tryz.ntmps175
  have L0 : l.length ≤ 900000 := hl
  clear hl
  go_wp2_with fail
  refine (puti_lit [e.1.id, e.1.kd] _ rfl rfl (by simp [o1, o2]) (by simp) hBw (by omega) P0.out (by simp)).mono ?_
  rintro x w1 ⟨rfl, hp1, hk1⟩
  have HB1 := Lib.hid (hk1 w.heap.size 49 _ _ (by decide) (by decide) HB.out)
  have P1 := Lib.hid hp1
  have LN1 : Hid ((l ++ [e.1.id, e.1.kd].flatMap encInt).length ≤ 900018) := Lib.hid (by rw [List.length_append]; have h9 := flat_len [e.1.id, e.1.kd]; simp only [List.length_cons, List.length_nil] at h9; omega)
  clear hp1 hk1 HB P0
  obtain ⟨r0, r1, r2, r3, r4, r5, r6, r7, r8⟩ := Nine.of_block HB1.out
  simp only [Nat.zero_add] at r1 r2 r3 r4 r5 r6 r7 r8
  go_wp2_with fail
  refine (puts_lit o3 hBw (by have := LN1.out; omega) P1.out (by simp)).mono ?_
  rintro x w2 ⟨rfl, hp2, hk2⟩
  have HB2 := Lib.hid (hk2 w.heap.size 49 _ _ (by decide) (by decide) HB1.out)
  have P2 := Lib.hid hp2
  have LN2 : Hid (((l ++ [e.1.id, e.1.kd].flatMap encInt) ++ encS e.1.tx).length ≤ 965618) := Lib.hid (by rw [List.length_append]; have h9 := encS_len o3; have h8 := LN1.out; omega)
  clear hp2 hk2 HB1 P1 r0 r1 r2 r3 r4 r5 r6 r7 r8
  obtain ⟨r0, r1, r2, r3, r4, r5, r6, r7, r8⟩ := Nine.of_block HB2.out
  simp only [Nat.zero_add] at r1 r2 r3 r4 r5 r6 r7 r8
  go_wp2_with fail
  refine (puti_lit [e.1.st, e.1.rf, e.1.lb.u, (e.2.2.1 : Int)] _ rfl rfl (by simp [o4, o5, o6, okn]) (by simp) hBw (by have := LN2.out; omega) P2.out (by simp)).mono ?_
  rintro x w3 ⟨rfl, hp3, hk3⟩
  have HB3 := Lib.hid (hk3 w.heap.size 49 _ _ (by decide) (by decide) HB2.out)
  have P3 := Lib.hid hp3
  have LN3 : Hid ((((l ++ [e.1.id, e.1.kd].flatMap encInt) ++ encS e.1.tx) ++ [e.1.st, e.1.rf, e.1.lb.u, (e.2.2.1 : Int)].flatMap encInt).length ≤ 965654) := Lib.hid (by rw [List.length_append]; have h9 := flat_len [e.1.st, e.1.rf, e.1.lb.u, (e.2.2.1 : Int)]; have h8 := LN2.out; simp only [List.length_cons, List.length_nil] at h9; omega)
  clear hp3 hk3 HB2 P2 r0 r1 r2 r3 r4 r5 r6 r7 r8
  obtain ⟨r0, r1, r2, r3, r4, r5, r6, r7, r8⟩ := Nine.of_block HB3.out
  simp only [Nat.zero_add] at r1 r2 r3 r4 r5 r6 r7 r8
  go_wp2_with fail
  refine (puti_old e.1.lb.af O8.out (by omega) hBw (by have := LN3.out; omega) P3.out HV.out).mono ?_
  rintro x w4 ⟨rfl, hp4, hk4⟩
  have HB4 := Lib.hid (hk4 w.heap.size 49 _ _ (by decide) (by decide) HB3.out)
  have P4 := Lib.hid hp4
  have LN4 : Hid (((((l ++ [e.1.id, e.1.kd].flatMap encInt) ++ encS e.1.tx) ++ [e.1.st, e.1.rf, e.1.lb.u, (e.2.2.1 : Int)].flatMap encInt) ++ e.1.lb.af.flatMap encInt).length ≤ 966254) := Lib.hid (by rw [List.length_append]; have h9 := flat_len e.1.lb.af; have h8 := LN3.out; omega)
  clear hp4 hk4 HB3 P3 r0 r1 r2 r3 r4 r5 r6 r7 r8
  obtain ⟨r0, r1, r2, r3, r4, r5, r6, r7, r8⟩ := Nine.of_block HB4.out
  simp only [Nat.zero_add] at r1 r2 r3 r4 r5 r6 r7 r8
  go_wp2_with fail
  refine (puti_lit [e.1.lb.ap, e.1.lb.d] _ rfl rfl (by simp [o9, o10]) (by simp) hBw (by have := LN4.out; omega) P4.out (by simp)).mono ?_
  rintro x w5 ⟨rfl, hp5, hk5⟩
  have HB5 := Lib.hid (hk5 w.heap.size 49 _ _ (by decide) (by decide) HB4.out)
  have P5 := Lib.hid hp5
  have LN5 : Hid ((((((l ++ [e.1.id, e.1.kd].flatMap encInt) ++ encS e.1.tx) ++ [e.1.st, e.1.rf, e.1.lb.u, (e.2.2.1 : Int)].flatMap encInt) ++ e.1.lb.af.flatMap encInt) ++ [e.1.lb.ap, e.1.lb.d].flatMap encInt).length ≤ 966272) := Lib.hid (by rw [List.length_append]; have h9 := flat_len [e.1.lb.ap, e.1.lb.d]; have h8 := LN4.out; simp only [List.length_cons, List.length_nil] at h9; omega)
  clear hp5 hk5 HB4 P4 r0 r1 r2 r3 r4 r5 r6 r7 r8
  go_wp2
  go_end0
  refine ⟨rfl, ?_⟩
  have := P5.out
  have he : l ++ encB e.1 = (((((l ++ [e.1.id, e.1.kd].flatMap encInt) ++ encS e.1.tx) ++ [e.1.st, e.1.rf, e.1.lb.u, (e.2.2.1 : Int)].flatMap encInt) ++ e.1.lb.af.flatMap encInt) ++ [e.1.lb.ap, e.1.lb.d].flatMap encInt) := by
    unfold encB encN
    rw [HAF.out]
    simp
  rw [he]
  exact this
end Go.Proofs.YtlhcckjfgpcohaaGreatDoor
