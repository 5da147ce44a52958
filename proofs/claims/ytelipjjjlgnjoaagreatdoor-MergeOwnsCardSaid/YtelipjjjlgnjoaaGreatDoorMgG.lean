import Derived.Test.YtelipjjjlgnjoaaGreatDoorMgE
import Derived.Test.YtelipjjjlgnjoaaGreatDoorShelf
import Derived.Sort.OwnSortedInts
import Derived.Lib.OwnBridge
import Derived.Lib.RowBridge
import Derived.Lib.AppendZeros
import Derived.Lib.LazyBuf
namespace Go.Proofs.YtelipjjjlgnjoaaGreatDoor
open Go.RowKit Go.MapKept Go.Shelf Go.Sort
set_option maxRecDepth 100000
set_option linter.unusedSimpArgs false
set_option linter.unusedVariables false
abbrev intsV (os : List Int) : List Value := os.map (Value.int .i64)
theorem own_len {w : World} {base : Nat} {e : TypeId} {v : Value} {n : Nat} {os : List Int} (h : w.ownsRow base e 1 v n (intsV os)) : os.length = n := by
  have := h.1
  simpa [intsV] using this
theorem sort_any (w : World) (base : Nat) (a : Option Addr) (n c : Nat) (os : List Int) (h : w.ownsRow base 3 1 (.slice a n c) n (intsV os)) (hn : n ≤ 100000) :
    Calls Tryz.prog 49 #[.slice a n c] w fun e w' => e = .returned (.tuple #[]) ∧ w'.ownsRow base 3 1 (.slice a n c) n (intsV (os.mergeSort fun x y => decide (x ≤ y))) ∧ w.grownBy w' (Value.slice a n c).ownBlock := by
  have hl := own_len h
  by_cases h0 : n = 0
  · subst h0
    obtain rfl := List.eq_nil_of_length_eq_zero hl
    refine (Tryz.slices_Sort_int_none a c w).mono ?_
    rintro e w' ⟨rfl, rfl⟩
    exact ⟨rfl, by simpa using h, World.grownBy.refl _ _⟩
  · have hnn : Value.slice a n c ≠ .slice none 0 0 := fun e => by injection e with _ e2; exact h0 e2
    subst hl
    obtain ⟨g, cap, hv, hbg, hgl, hncap, hcm, hlen', hH⟩ := Lib.holds_of_ownsRow h hnn
    injection hv with e1 _ e2
    subst e1 e2
    have hs : (os.mergeSort fun x y => decide (x ≤ y)).length = os.length := List.length_mergeSort os
    refine (Tryz.slices_Sort_int g 0 c os w hH hgl (by omega)).mono ?_
    rintro e w' ⟨rfl, nn, obs, rfl⟩
    rcases h.2 with ⟨e0, _⟩ | ⟨g', cap', cur, hv, hbase, hb, g1, g2, g3, g4⟩
    · cases e0
    cases hv
    exact ⟨rfl, ownsRow_sortedI (n := nn) (os := obs) (ts := os.mergeSort fun x y => decide (x ≤ y)) hs hbase hb g1 g2 g3, grownBy_sortedI _⟩
theorem idxFrom_eq : ∀ (zs : List Int) (x : Int) (i : Nat), Lib.idxFrom zs x i = match idxI zs x with | some k => ((k + i : Nat) : Int) | none => -1
  | [], x, i => rfl
  | z :: zs, x, i => by
    unfold Lib.idxFrom idxI
    by_cases h : z = x
    · simp [h]
    · rw [if_neg h, if_neg h, idxFrom_eq zs x (i + 1)]
      cases idxI zs x with
      | none => rfl
      | some k =>
        show ((k + (i + 1) : Nat) : Int) = ((k + 1 + i : Nat) : Int)
        congr 1; omega
theorem idxOf_eq (zs : List Int) (x : Int) : Lib.idxOf zs x = match idxI zs x with | some k => ((k : Nat) : Int) | none => -1 := by
  unfold Lib.idxOf
  rw [idxFrom_eq]
  cases idxI zs x <;> rfl
theorem own_ints {w : World} {base : Nat} {a : Option Addr} {n c : Nat} {os : List Int} (h : w.ownsRow base 3 1 (.slice a n c) n (intsV os)) (hn : n ≠ 0) : ∃ b, a = some ⟨b, 0, none⟩ ∧ base ≤ b ∧ n ≤ c ∧ c ≤ maxLen ∧ ∃ cur : Array Value, w.heap[b]? = some (.cells cur 3 (0, 0)) ∧ cur.size = c ∧ cur.toList.take n = intsV os := by
  rcases h.2 with ⟨e0, hz⟩ | ⟨g, cap, cur, hv, hbase, hb, g1, g2, g3, g4⟩
  · exact absurd hz hn
  · injection hv with e1 _ e2
    subst e1 e2
    exact ⟨g, rfl, hbase, g1, g2, cur, hb, by omega, by simpa using g4⟩
theorem index_any (w : World) (base : Nat) (a : Option Addr) (n c : Nat) (os : List Int) (x : Int) (h : w.ownsRow base 3 1 (.slice a n c) n (intsV os)) (hn : n ≤ 100000) :
    Calls Tryz.prog 52 #[.slice a n c, .int .i64 x] w fun e w' => e = .returned (.int .i64 (match idxI os x with | some k => ((k : Nat) : Int) | none => -1)) ∧ w = w' := by
  have hl := own_len h
  by_cases h0 : n = 0
  · subst h0
    obtain rfl := List.eq_nil_of_length_eq_zero hl
    refine (Tryz.slices_Index_int_empty a c x w).mono ?_
    rintro e w' ⟨rfl, rfl⟩
    exact ⟨by rw [idxOf_eq], rfl⟩
  · obtain ⟨b, rfl, _, _, _, cur, hb, hcs, ht⟩ := own_ints h h0
    refine (Tryz.slices_Index_int b 0 n c os x w (by omega) (by omega) (fun j hj => ?_)).mono ?_
    · rw [Joins.cell_of_block hb]
      have h1 : (cur.toList.take n)[j]? = (intsV os)[j]? := by rw [ht]
      rw [List.getElem?_take, if_pos (by omega)] at h1
      have h2 : (intsV os)[j]? = some (.int .i64 (os.getD j 0)) := by simp [intsV, List.getD, hj]
      rw [h2] at h1
      simpa using h1
    · rintro e w' ⟨rfl, rfl⟩
      exact ⟨by rw [idxOf_eq, List.take_of_length_le (by omega)], rfl⟩
/- cells stored one behind the other -/
def setM (cs : Array Value) : Nat → List Value → Array Value
  | _, [] => cs
  | o, v :: vs => setM (cs.setIfInBounds o v) (o + 1) vs
theorem setM_size : ∀ (vs : List Value) (cs : Array Value) (o : Nat), (setM cs o vs).size = cs.size
  | [], _, _ => rfl
  | v :: vs, cs, o => by rw [setM, setM_size]; simp
theorem setM_list : ∀ (vs : List Value) (cs : Array Value) (o : Nat), o + vs.length ≤ cs.size → (setM cs o vs).toList = cs.toList.take o ++ (vs ++ cs.toList.drop (o + vs.length))
  | [], cs, o, _ => by simp [setM]
  | v :: vs, cs, o, h => by
    rw [List.length_cons] at h
    rw [setM, setM_list vs _ (o + 1) (by simp; omega)]
    have h1 : (cs.setIfInBounds o v).toList = cs.toList.set o v := by simp
    rw [h1]
    have ho : o < cs.toList.length := by simp; omega
    have e1 : (cs.toList.set o v).take (o + 1) = cs.toList.take o ++ [v] := by
      rw [List.take_set]
      rw [List.take_succ_eq_append_getElem ho]
      have hm : min o cs.size = o := by have : o < cs.size := by simpa using ho
                                        omega
      rw [List.set_append_right _ _ (by simp; omega)]
      simp [hm]
    have e2 : (cs.toList.set o v).drop (o + 1 + vs.length) = cs.toList.drop (o + (vs.length + 1)) := by
      rw [List.drop_set_of_lt (by omega)]
      congr 1; omega
    rw [e1, e2]
    simp
theorem block_setCells {g : Nat} {t : TypeId} {fr : Nat × Nat} : ∀ (vs : List Value) (o : Nat) (w : World) (cs : Array Value), w.heap[g]? = some (.cells cs t fr) → (w.setCells g o vs).heap[g]? = some (.cells (setM cs o vs) t fr)
  | [], _, _, _, h => h
  | v :: vs, o, w, cs, h => block_setCells vs (o + 1) _ _ (Joins.block_setCell h v)
theorem insA_vals (os : List Int) (i : Nat) (x : Int) : intsV (insA os i x) = (intsV os).take i ++ .int .i64 x :: (intsV os).drop i := by simp [insA, intsV]
theorem insA_len (os : List Int) (i : Nat) (x : Int) (h : i ≤ os.length) : (insA os i x).length = os.length + 1 := by simp [insA]; omega
theorem insA_end (os : List Int) (x : Int) : insA os os.length x = os ++ [x] := by simp [insA]
theorem ins_list (L V : List Value) (x : Value) (i n : Nat) (hL : L.take n = V) (hV : V.length = n) (hn : n + 1 ≤ L.length) (hi : i < n) :
    (((L.take (i + 1) ++ (V.drop i ++ L.drop (n + 1))).take i) ++ ([x] ++ (L.take (i + 1) ++ (V.drop i ++ L.drop (n + 1))).drop (i + 1))).take (n + 1) = V.take i ++ x :: V.drop i := by
  have a1 : (L.take (i + 1)).length = i + 1 := by rw [List.length_take]; omega
  have e1 : (L.take (i + 1) ++ (V.drop i ++ L.drop (n + 1))).take i = V.take i := by
    rw [List.take_append_of_le_length (by omega), List.take_take, ← hL, List.take_take]
    congr 1; omega
  have e2 : (L.take (i + 1) ++ (V.drop i ++ L.drop (n + 1))).drop (i + 1) = V.drop i ++ L.drop (n + 1) := List.drop_left' a1
  rw [e1, e2]
  have e3 : V.take i ++ ([x] ++ (V.drop i ++ L.drop (n + 1))) = (V.take i ++ x :: V.drop i) ++ L.drop (n + 1) := by simp
  rw [e3, List.take_left']
  rw [List.length_append, List.length_cons, List.length_take, List.length_drop]; omega
theorem ins_list2 (C V : List Value) (x : Value) (i n : Nat) (hC : C.take i = V.take i) (hV : V.length = n) (hn : n + 1 ≤ C.length) (hi : i < n) :
    (((C.take i ++ ([x] ++ C.drop (i + 1))).take (i + 1)) ++ (V.drop i ++ (C.take i ++ ([x] ++ C.drop (i + 1))).drop (n + 1))).take (n + 1) = V.take i ++ x :: V.drop i := by
  have a1 : (C.take i ++ [x]).length = i + 1 := by rw [List.length_append, List.length_take]; simp; omega
  have e1 : (C.take i ++ ([x] ++ C.drop (i + 1))).take (i + 1) = V.take i ++ [x] := by
    rw [← List.append_assoc, List.take_left' a1, hC]
  rw [e1]
  generalize (C.take i ++ ([x] ++ C.drop (i + 1))).drop (n + 1) = R
  have e3 : V.take i ++ [x] ++ (V.drop i ++ R) = (V.take i ++ x :: V.drop i) ++ R := by simp
  rw [e3, List.take_left']
  rw [List.length_append, List.length_cons, List.length_take, List.length_drop]; omega
theorem below_setC {B b : Nat} {a : World} (hb : B ≤ b) : ∀ (vs : List Value) (o : Nat) (w : World), Below B a w → Below B a (w.setCells b o vs)
  | [], _, _, h => h
  | v :: vs, o, w, h => below_setC hb vs (o + 1) _ (h.setCell (p := ⟨b, o, none⟩) hb v)
theorem below_grown {w w' : World} {n : Nat} {row : Option Nat} (hg : w.grownBy w' row) (hn : n ≤ w.heap.size) (hr : ∀ k, row = some k → n ≤ k) : Below n w w' := (Below.refl n w).grown hg hn hr
/-- slices.Insert of one number into a row of the call's own. -/
theorem insert_any (w : World) (base : Nat) (a : Option Addr) (n c : Nat) (os : List Int) (i vb : Nat) (x : Int) (h : w.ownsRow base 3 1 (.slice a n c) n (intsV os)) (hn : n ≤ 100000) (hi : i ≤ n) (hb0 : base ≤ w.heap.size)
    (hv : w.heap[vb]? = some (.cells #[.int .i64 x] 3 (0, 0))) (hne : a.map Addr.block ≠ some vb) :
    Calls Tryz.prog 53 #[.slice a n c, .int .i64 i, .slice (some ⟨vb, 0, none⟩) 1 1] w fun e w' => ∃ a' c', e = .returned (.slice a' (n + 1) c') ∧ w'.ownsRow base 3 1 (.slice a' (n + 1) c') (n + 1) (intsV (insA os i x)) ∧ Below base w w' := by
  have hl := own_len h
  have hvs : ∀ (j : Nat) (v : Value), [Value.int .i64 x][j]? = some v → w.cell? ⟨vb, 0 + j, none⟩ = some v := by
    intro j v hj
    rw [Joins.cell_of_block hv]
    cases j with
    | zero => simpa using hj
    | succ j => simp at hj
  have h1v : ∀ v ∈ [Value.int .i64 x], v.oneCell' = true := by intro v hv; simp at hv; subst hv; rfl
  have h1c : ∀ v ∈ intsV os, v.oneCell' = true := one_cells os
  have hlV : (intsV os).length = n := by simp [intsV, hl]
  by_cases hend : i = n
  · subst hend
    by_cases hroom : i + 1 ≤ c
    · -- room at the end
      rcases h.2 with ⟨e0, hz⟩ | ⟨b, cap, cur, hvv, hbase, hb, g1, g2, g3, g4⟩
      · injection e0 with e1 e2 e3; omega
      · injection hvv with e1 _ e2
        subst e1 e2
        have hcur : ∀ j, j < c → (w.cell? ⟨b, j, none⟩).isSome = true := by intro j hj; rw [Joins.cell_of_block hb]; simp; omega
        refine (Any2.slices_Insert_int_end_room Tryz.laysIns b 0 i c vb 0 1 1 [.int .i64 x] w (by omega) hroom (by unfold maxLen at g2; omega) rfl (fun j hj => by rw [Nat.zero_add]; exact hcur _ (by omega)) (fun j _ => Joins.unfrozen_of_block hb _) hvs h1v).mono ?_
        rintro e w' ⟨rfl, rfl⟩
        refine ⟨_, _, rfl, ⟨by simp [intsV, insA_len _ _ _ (Nat.le_of_eq hl.symm), hl], .inr ⟨b, c, _, rfl, hbase, block_setCells [.int .i64 x] (0 + i) w cur hb, hroom, g2, by rw [setM_size]; exact g3, ?_⟩⟩, below_setC hbase _ _ _ (Below.refl _ _)⟩
        rw [setM_list _ _ _ (by simp; omega), Nat.zero_add, insA_vals, Nat.mul_one]
        simp only [Nat.mul_one] at g4
        rw [g4, List.take_of_length_le (l := intsV os) (by omega), List.drop_of_length_le (l := intsV os) (by omega), ← List.append_assoc, List.take_left' (by simp [intsV, hl])]
    · -- a new row
      have hge := grownCap_ge w (i + 1) c 3
      have hmx := grownCap_le_maxLen w (i + 1) c 3 (by unfold maxLen; omega)
      have hnc : i ≤ c := by
        rcases h.2 with ⟨e0, hz⟩ | ⟨b, cap, cur, hvv, hbase, hb, g1, g2, g3, g4⟩
        · omega
        · injection hvv with _ _ e2; omega
      have key := Any2.slices_Insert_int_end_grow Tryz.laysIns a i c vb 0 1 1 (intsV os) [.int .i64 x] w (by omega) hnc (by omega) (by omega) hlV rfl
      rw [show Tryz.laysIns_ren.t 3 = 3 from rfl] at key
      refine (key (fun ha => ?_) (fun ad ha j v hj => ?_) hvs h1v).mono ?_
      · rcases h.2 with ⟨_, hz⟩ | ⟨b, cap, cur, hvv, hbase, hb, g1, g2, g3, g4⟩
        · exact hz
        · injection hvv with e1 _ _; rw [ha] at e1; cases e1
      · rcases h.2 with ⟨e0, hz⟩ | ⟨b, cap, cur, hvv, hbase, hb, g1, g2, g3, g4⟩
        · injection e0 with e1 _ _; rw [ha] at e1; cases e1
        · injection hvv with e1 _ _
          rw [ha] at e1
          injection e1 with e1
          subst e1
          rw [add_at, Nat.zero_add, Joins.cell_of_block hb]
          rw [← g4, Nat.mul_one, List.getElem?_take] at hj
          split at hj
          · simpa using hj
          · cases hj
      · rintro e w' ⟨rfl, rfl⟩
        have hA := heap_alloc_new w.drew (.cells ((intsV os ++ [Value.int .i64 x]).toArray ++ Builtin.zeroCells (Value.int .i64 0).cells (grownCap w (i + 1) c 3 - (i + 1))) 3)
        refine ⟨_, _, rfl, ⟨by simp [intsV, insA_len _ _ _ (Nat.le_of_eq hl.symm), hl], .inr ⟨w.heap.size, _, _, rfl, hb0, hA, hge, hmx, ?_, ?_⟩⟩, ?_⟩
        · simp [size_zeroCells, Value.cells, hl, intsV]; omega
        · rw [insA_vals, Nat.mul_one, List.take_of_length_le (l := intsV os) (by omega), List.drop_of_length_le (l := intsV os) (by omega), Array.toList_append, List.take_left' (by simp [intsV, hl])]
        · exact ((Below.refl base w).mono (Nat.le_refl _)).drew.alloc hb0 _
  · have hin : i < n := by omega
    rcases h.2 with ⟨e0, hz⟩ | ⟨b, cap, cur, hvv, hbase, hb, g1, g2, g3, g4⟩
    · omega
    · injection hvv with e1 _ e2
      subst e1 e2
      simp only [Nat.mul_one] at g3 g4
      have hcs : ∀ (j : Nat) (v : Value), (intsV os)[j]? = some v → w.cell? ⟨b, 0 + j, none⟩ = some v := by
        intro j v hj
        rw [Nat.zero_add, Joins.cell_of_block hb]
        rw [← g4, List.getElem?_take] at hj
        split at hj
        · simpa using hj
        · cases hj
      have hL : cur.toList = intsV os ++ cur.toList.drop n := by rw [← g4, List.take_append_drop]
      have hbv : vb ≠ b := by intro e; subst e; exact hne rfl
      by_cases hroom : n + 1 ≤ c
      · have hcur : ∀ j, j < c → (w.cell? ⟨b, j, none⟩).isSome = true := by intro j hj; rw [Joins.cell_of_block hb]; simp; omega
        refine (Any2.slices_Insert_int_shift Tryz.laysIns b 0 n c i vb 0 1 1 (intsV os) [.int .i64 x] w hin (by omega) hroom (by unfold maxLen at g2; omega) hbv hlV rfl hcs (fun j hj => by rw [Nat.zero_add]; exact hcur _ (by omega)) (fun j _ => Joins.unfrozen_of_block hb _) hvs h1c h1v 3 3 1 cur.size (by simp [World.shape?, hv]) (by simp [World.shape?, hb]) (by omega) (Joins.unfrozen_of_block hv _) (Joins.unfrozen_of_block hv _)).mono ?_
        rintro e w' ⟨rfl, rfl⟩
        have h1 := block_setCells ((intsV os).drop i) (0 + (i + 1)) w.drew cur hb
        have h2 := block_setCells [.int .i64 x] (0 + i) _ _ h1
        refine ⟨_, _, rfl, ⟨by simp [intsV, insA_len os i x (by omega), hl], .inr ⟨b, c, _, rfl, hbase, h2, hroom, g2, by rw [setM_size, setM_size]; omega, ?_⟩⟩, below_setC hbase _ _ _ (below_setC hbase _ _ _ (Below.refl _ _).drew)⟩
        have hld : ((intsV os).drop i).length = n - i := by rw [List.length_drop, hlV]
        rw [setM_list _ _ _ (by rw [setM_size]; simp; omega), setM_list _ _ _ (by rw [hld]; omega), hld, Nat.zero_add, Nat.zero_add, Nat.mul_one, insA_vals]
        rw [show i + 1 + (n - i) = n + 1 by omega]
        exact ins_list cur.toList (intsV os) _ i n g4 hlV (by simp; omega) hin
      · have hge := grownCap_ge w (n + 1) c 3
        have hmx := grownCap_le_maxLen w (n + 1) c 3 (by unfold maxLen; omega)
        have key := Any2.slices_Insert_int_grow Tryz.laysIns b 0 n c i vb 0 1 1 (intsV os) [.int .i64 x] w hin (by omega) g1 (by omega) (by omega) hlV rfl hcs hvs h1c h1v
        rw [show Tryz.laysIns_ren.t 3 = 3 from rfl] at key
        refine key.mono ?_
        rintro e w' ⟨rfl, hw⟩
        have hA := heap_alloc_new w (.cells (((intsV os).take i).toArray ++ Builtin.zeroCells (Value.int .i64 0).cells (n + 1 - i) ++ Builtin.zeroCells (Value.int .i64 0).cells (grownCap w (n + 1) c 3 - (n + 1))) 3)
        have hlt : ((intsV os).take i).length = i := by rw [List.length_take]; omega
        generalize hC : (((intsV os).take i).toArray ++ Builtin.zeroCells (Value.int .i64 0).cells (n + 1 - i) ++ Builtin.zeroCells (Value.int .i64 0).cells (grownCap w (n + 1) c 3 - (n + 1))) = C at *
        subst hw
        have hCs : C.size = grownCap w (n + 1) c 3 := by rw [← hC]; simp [size_zeroCells, Value.cells, hlt]; omega
        have hCl : C.toList.take i = (intsV os).take i := by
          rw [← hC, Array.toList_append, Array.toList_append, List.append_assoc, List.take_left' (by simpa using hlt)]
        have h1 := block_setCells [Value.int .i64 x] i (w.alloc (.cells C 3)).drew C hA
        have h2 := block_setCells ((intsV os).drop i) (i + 1) (((w.alloc (.cells C 3)).drew.setCells w.heap.size i [.int .i64 x]).drew) _ h1
        refine ⟨_, _, rfl, ⟨by simp [intsV, insA_len os i x (by omega), hl], .inr ⟨w.heap.size, _, _, rfl, hb0, h2, hge, hmx, by rw [setM_size, setM_size, hCs, Nat.mul_one], ?_⟩⟩, below_setC hb0 _ _ _ (below_setC hb0 _ _ _ ((Below.refl base w).alloc hb0 _).drew).drew⟩
        have hld : ((intsV os).drop i).length = n - i := by rw [List.length_drop, hlV]
        rw [setM_list _ _ _ (by rw [setM_size, hld, hCs]; omega), setM_list _ _ _ (by simp; omega), hld, Nat.mul_one, insA_vals]
        rw [show i + 1 + (n - i) = n + 1 by omega]
        exact ins_list2 C.toList (intsV os) _ i n hCl hlV (by simp; omega) hin
end Go.Proofs.YtelipjjjlgnjoaaGreatDoor
