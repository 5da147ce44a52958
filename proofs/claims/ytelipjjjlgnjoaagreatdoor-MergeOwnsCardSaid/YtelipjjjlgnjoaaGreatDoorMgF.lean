import Derived.Test.YtelipjjjlgnjoaaGreatDoorMgC
import Derived.RangeFuncNested
import Derived.RangeFuncBound
import Derived.RangeFuncCalls
import Derived.RangeFuncLeaves
import Derived.Shelf.Abstract
import Derived.Shelf.RegionOpen
import Derived.WalkKit
import Derived.OwnWalkIn
import Derived.TacticsInMore
import Derived.LoopNIn
import Derived.LoopIn
import Derived.RangeFuncBox
namespace Go.Proofs.YtelipjjjlgnjoaaGreatDoor
open Go.RowKit Go.MapKept Go.Shelf
attribute [local go_sem] Oper.semAt_some
set_option maxRecDepth 100000
set_option linter.unusedSimpArgs false
set_option linter.unusedVariables false
set_option maxHeartbeats 1000000 in
theorem eqid1_any (e : BE) (id : Int) (p : Nat) (w : World) (hp : w.cell? ⟨p, 0, none⟩ = some (.int .i64 id)) :
    Calls Tryz.prog 66 #[blkV e.1 e.2.1 e.2.2.1 e.2.2.2, .pointer (some ⟨p, 0, none⟩)] w fun x w' => x = .returned (.bool (e.1.id == id)) ∧ Below w.heap.size w w' := by
  have B0 := below_alloc w (.cells #[.int .i64 e.1.id, .int .i64 e.1.kd, .string ⟨e.1.tx.toArray⟩, .int .i64 e.1.st, .int .i64 e.1.rf, .int .i64 e.1.lb.u, .slice e.2.1 e.2.2.1 e.2.2.2, .int .i64 e.1.lb.ap, .int .i64 e.1.lb.d] 39)
  have hlt := World.block_lt_of_cell? w _ hp
  simp only at hlt
  unfold blkV
  go_enter Tryz.func66, Tryz.ntmps66
  go_wp2
  go_ret
  exact ⟨rfl, B0⟩
set_option maxHeartbeats 2000000 in
theorem idxg_any (a : Option Addr) (n c : Nat) (es : List BE) (id : Int) (p : Nat) (w : World) (h : IsBlks w a n c es) (hp : w.cell? ⟨p, 0, none⟩ = some (.int .i64 id)) :
    Calls Tryz.prog 84 #[.slice a n c, .func (.func 66) #[] #[.pointer (some ⟨p, 0, none⟩)]] w fun x w' => ∃ r : Int, x = .returned (.int .i64 r) ∧ decide (0 ≤ r) = hasB es id ∧ Below w.heap.size w w' := by
  have hcm := h.2.2.1
  have hnc := h.2.1
  have HL := Lib.hid h.1
  have H := Lib.hid h
  have HP := Lib.hid hp
  unfold maxLen at hcm
  clear h hp
  go_enter Tryz.func84, Tryz.ntmps84
  go_wp2
  go_loopw [8, 5] (fun i _ wr => ∃ k : Nat, k ≤ n ∧ i = .int .i64 k ∧ Hid (∀ j e, j < k → es[j]? = some e → (e.1.id == id) = false) ∧ Below w.heap.size w wr) (fun i _ _ => n - (intOf i).toNat)
  case atStart => exact ⟨0, Nat.zero_le _, rfl, Lib.hid (fun j e hj => by omega), Below.refl _ _⟩
  case round =>
    obtain ⟨k, hk, rfl, hall, bw⟩ := hrel
    by_cases hlt : k < n
    · obtain ⟨b, off, e, rfl, he, hok, h9⟩ := (H.out.over bw).at_ hlt
      have K := Lib.hid (eqid1_any e id p wr (cellOver bw HP.out))
      have HE := Lib.hid he
      obtain ⟨c0, c1, c2, c3, c4, c5, c6, c7, c8⟩ := h9
      clear he hok
      have hltn : (k : Int) < n := by omega
      go_wp2_with fail
      refine K.out.mono ?_
      rintro x w1 ⟨rfl, b1⟩
      have B1 := bel2 bw b1
      clear b1 c0 c1 c2 c3 c4 c5 c6 c7 c8
      cases hb : (e.1.id == id)
      · have HB := Lib.hid hb
        clear hb
        go_wp2
        go_roundw
        case rel => exact ⟨k + 1, by omega, by go_num, Lib.hid (fun j e' hj he' => by
          by_cases ej : j = k
          · subst ej; rw [HE.out] at he'; cases he'; exact HB.out
          · exact hall.out j e' (by omega) he'), B1⟩
        case measure => simp [intOf]; omega
      · have HB := Lib.hid (hasB_at HE.out hb)
        clear hb
        go_wp2
        go_ret
        exact ⟨k, rfl, by rw [HB.out]; simp, B1⟩
    · obtain rfl : k = n := by omega
      have HB := Lib.hid (hasB_no (es := es) (id := id) (fun j e hj he => hall.out j e (by rw [← HL.out]; exact hj) he))
      go_wp2
      go_ret
      exact ⟨-1, rfl, by rw [HB.out]; decide, bw⟩
set_option maxHeartbeats 1000000 in
theorem contg_any (a : Option Addr) (n c : Nat) (es : List BE) (id : Int) (p : Nat) (w : World) (h : IsBlks w a n c es) (hp : w.cell? ⟨p, 0, none⟩ = some (.int .i64 id)) :
    Calls Tryz.prog 61 #[.slice a n c, .func (.func 66) #[] #[.pointer (some ⟨p, 0, none⟩)]] w fun x w' => x = .returned (.bool (hasB es id)) ∧ Below w.heap.size w w' := by
  have K := Lib.hid (idxg_any a n c es id p w h hp)
  clear h hp
  go_enter Tryz.func61, Tryz.ntmps61
  go_wp2_with fail
  refine K.out.mono ?_
  rintro x w1 ⟨r, rfl, hr, b1⟩
  go_wp2
  go_ret
  exact ⟨rfl, b1⟩
/-- A slice of blocks as it lies: its address, its length, its capacity, what it reads as. -/
abbrev SL : Type := Option Addr × Nat × Nat × List BE
def lsI (T : List SL) : List (List Int) := T.map (fun t => bids (blks t.2.2.2))
/-- Block g holds the slices T; what they read as lies in w₀. -/
structure IsLs (w₀ w : World) (g : Nat) (T : List SL) : Prop where
  hc : ∀ k t, T[k]? = some t → w.cell? ⟨g, k, none⟩ = some (.slice t.1 t.2.1 t.2.2.1)
  hb : ∀ t ∈ T, IsBlks w₀ t.1 t.2.1 t.2.2.1 t.2.2.2
  hl : T.length ≤ 100
  hn : ∀ t ∈ T, t.2.1 ≤ 1000
def KpI (w₀ : World) (Bt g : Nat) (W W' : World) : Prop := (Below w₀.heap.size w₀ W → Below w₀.heap.size w₀ W') ∧ W'.heap[Bt]? = W.heap[Bt]? ∧ W'.heap[g]? = W.heap[g]?
theorem IsLs.same {w₀ w w' : World} {g : Nat} {T : List SL} (h : IsLs w₀ w g T) (he : w'.heap[g]? = w.heap[g]?) : IsLs w₀ w' g T :=
  ⟨fun k t ht => by rw [World.cell?_of_block (a := ⟨g, k, none⟩) he]; exact h.hc k t ht, h.hb, h.hl, h.hn⟩
theorem IsLs.over {w₀ w w' : World} {g : Nat} {T : List SL} (h : IsLs w₀ w g T) (hb : Below w.heap.size w w') : IsLs w₀ w' g T :=
  ⟨fun k t ht => cellOver hb (h.hc k t ht), h.hb, h.hl, h.hn⟩
theorem lsI_at {T : List SL} {k : Nat} {t : SL} (h : T[k]? = some t) : (lsI T)[k]? = some (bids (blks t.2.2.2)) := by unfold lsI; rw [List.getElem?_map, h]; rfl
theorem seen_of {T : List SL} {k j : Nat} {t : SL} {id : Int} (hj : j < k) (ht : T[j]? = some t) (h : hasB t.2.2.2 id = true) : seenI ((lsI T).take k) id = true := by
  rw [seenI_iff]
  refine ⟨bids (blks t.2.2.2), List.mem_of_getElem? (i := j) ?_, (hasB_iff _ _).1 h⟩
  rw [List.getElem?_take, if_pos hj]; exact lsI_at ht
theorem unseen {T : List SL} {k : Nat} {id : Int} (h : ∀ j t, j < k → T[j]? = some t → hasB t.2.2.2 id = false) : seenI ((lsI T).take k) id = false := by
  cases e : seenI ((lsI T).take k) id with
  | false => rfl
  | true =>
    obtain ⟨l, hl, hi⟩ := seenI_iff.1 e
    obtain ⟨j, hj⟩ := List.getElem?_of_mem hl
    rw [List.getElem?_take] at hj
    by_cases hjk : j < k
    · rw [if_pos hjk] at hj
      unfold lsI at hj
      rw [List.getElem?_map] at hj
      cases ht : T[j]? with
      | none => rw [ht] at hj; simp at hj
      | some t =>
        rw [ht] at hj
        simp only [Option.map_some, Option.some.injEq] at hj
        subst hj
        have := h j t hjk ht
        rw [(hasB_iff _ _).2 hi] at this
        cases this
    · rw [if_neg hjk] at hj; cases hj
theorem newI_succ {ls : List (List Int)} {es : List BE} {k : Nat} {e : BE} (he : es[k]? = some e) : newI ls (bids (blks (es.take (k + 1)))) = newI ls (bids (blks (es.take k))) ++ (if seenI ls e.1.id = true then [] else [e.1.id]) := by
  have e1 : bids (blks (es.take (k + 1))) = bids (blks (es.take k)) ++ [e.1.id] := by rw [take_snoc he]; simp [bids, blks]
  rw [e1]
  unfold newI
  rw [List.filter_append]
  cases h : seenI ls e.1.id <;> simp [h]
theorem newI_prefix {ls : List (List Int)} {es : List BE} (k : Nat) : newI ls (bids (blks (es.take k))) <+: newI ls (bids (blks es)) := by
  refine ⟨newI ls (bids (blks (es.drop k))), ?_⟩
  have e1 : bids (blks es) = bids (blks (es.take k)) ++ bids (blks (es.drop k)) := by
    conv => lhs; rw [← List.take_append_drop k es]
    simp [bids, blks]
  rw [e1]; unfold newI; rw [List.filter_append]
theorem idsU_prefix (ls : List (List Int)) : ∀ (m k : Nat), k ≤ m → idsU ls k <+: idsU ls m
  | 0, k, h => by obtain rfl : k = 0 := by omega
                  exact List.prefix_refl _
  | m + 1, k, h => by
    by_cases e : k = m + 1
    · subst e; exact List.prefix_refl _
    · exact (idsU_prefix ls m k (by omega)).trans ⟨_, rfl⟩
theorem idsU_at {T : List SL} {k : Nat} {t : SL} (h : T[k]? = some t) : idsU (lsI T) (k + 1) = idsU (lsI T) k ++ newI ((lsI T).take k) (bids (blks t.2.2.2)) := by
  rw [idsU, lsI_at h]; rfl
theorem ids_prefix {T : List SL} {k : Nat} {t : SL} (h : T[k]? = some t) (k2 : Nat) : idsU (lsI T) k ++ newI ((lsI T).take k) (bids (blks (t.2.2.2.take k2))) <+: idsU (lsI T) T.length := by
  have hk := (List.getElem?_eq_some_iff.1 h).1
  refine List.IsPrefix.trans ?_ (idsU_prefix (lsI T) T.length (k + 1) hk)
  rw [idsU_at h]
  exact (List.prefix_append_right_inj _).2 (newI_prefix k2)
set_option maxHeartbeats 8000000 in
theorem ids1_in (n : Nat) (hn : 2 ≤ n) (l Bt g : Nat) (T : List SL) (w₀ : World) (J Jx : List Int → World → Prop)
    (hJ : ∀ s W W', J s W → Below W.heap.size W W' → J s W')
    (hY : ∀ pre x W, J pre W → pre.length < 200000 → Bd x → YieldAt Fence.wide (n - 1) Tryz.prog l #[.int .i64 x] W fun e W' =>
      (e = .returned (.bool true) ∧ J (pre ++ [x]) W' ∧ KpI w₀ Bt g W W') ∨ (e = .returned (.bool false) ∧ Jx (pre ++ [x]) W'))
    (W : World) (hW : Below w₀.heap.size w₀ W) (hL : IsLs w₀ W g T) (hBt : W.heap[Bt]? = some (.cells #[.slice (some ⟨g, 0, none⟩) T.length T.length] 53 (0, 0))) (h0 : J [] W) :
    CallsIn Fence.wide n Tryz.prog 65 #[.func (.yield l) #[] #[], .pointer (some ⟨Bt, 0, none⟩)] W fun e W' => (∃ v, e = .returned v) ∧
      ((∃ ys, ys = idsU (lsI T) T.length ∧ J ys W') ∨ (∃ pre, pre <+: idsU (lsI T) T.length ∧ Jx pre W')) := by
  have hn1 : 1 ≤ n := by omega
  have HL := Lib.hid hL
  have HB := Lib.hid hBt
  have HW := Lib.hid hW
  have hl := hL.hl
  have hcB : W.cell? ⟨Bt, 0, none⟩ = some (.slice (some ⟨g, 0, none⟩) T.length T.length) := by rw [Joins.cell_of_block hBt]; rfl
  clear hL hBt hW
  refine callsIn_of_wp Tryz.func65 rfl trivial ?_ rfl
  simp only [Tryz.ntmps65, List.size_toArray, List.length_cons, List.length_nil, Nat.reduceAdd, Nat.reduceSub, Array.replicate_succ, Array.replicate_zero, List.push_toArray, List.append_toArray, List.nil_append, List.cons_append]
  gi_wp2
  gi_loopw [11, 3, 4, 6, 8, 18, 26] (fun p _ _ _ _ _ _ wr => ∃ k : Nat, k ≤ T.length ∧ p = .int .i64 (k : Int) ∧ J (idsU (lsI T) k) wr ∧ Hid (Below w₀.heap.size w₀ wr ∧ IsLs w₀ wr g T ∧ wr.heap[Bt]? = some (.cells #[.slice (some ⟨g, 0, none⟩) T.length T.length] 53 (0, 0)) ∧ (idsU (lsI T) k).length ≤ 1000 * k)) (fun p _ _ _ _ _ _ wr => T.length - (intOf p).toNat)
  case atStart => exact ⟨0, Nat.zero_le _, rfl, h0, Lib.hid ⟨HW.out, HL.out, HB.out, by simp [idsU]⟩⟩
  case round =>
    obtain ⟨k, hk, rfl, hJs, HI⟩ := hrel
    by_cases hlt : k < T.length
    · have ht := List.getElem?_eq_getElem hlt
      have hcell := HI.out.2.1.hc k _ ht
      have hltn : (k : Int) < T.length := by omega
      generalize T[k] = t at *
      obtain ⟨a, m, c, es⟩ := t
      simp only at hcell
      have HT := Lib.hid ht
      clear ht
      gi_wp2
      refine wpIn_wide.2 (wp_scope_straight ((wpIn_wide (n := n)).1 ?_))
      refine wpIn_seq ?_
      refine wpIn_label ?_
      have hIB : IsBlks w₀ a m c es := HL.out.hb _ (List.mem_of_getElem? HT.out)
      have hcm := hIB.2.2.1
      have hmc := hIB.2.1
      have hm1 : m ≤ 1000 := HL.out.hn _ (List.mem_of_getElem? HT.out)
      have hle := hIB.1
      have HLE := Lib.hid hle
      have HIB := Lib.hid hIB
      unfold maxLen at hcm
      clear hIB hle hcell
      gi_wp2
      gi_loopw [18, 6, 8, 26] (fun p _ _ _ wr => ∃ k2 : Nat, k2 ≤ m ∧ p = .int .i64 (k2 : Int) ∧ J (idsU (lsI T) k ++ newI ((lsI T).take k) (bids (blks (es.take k2)))) wr ∧ Hid (Below w₀.heap.size w₀ wr ∧ IsLs w₀ wr g T ∧ wr.heap[Bt]? = some (.cells #[.slice (some ⟨g, 0, none⟩) T.length T.length] 53 (0, 0)) ∧ (idsU (lsI T) k ++ newI ((lsI T).take k) (bids (blks (es.take k2)))).length ≤ 1000 * k + k2)) (fun p _ _ _ wr => m - (intOf p).toNat)
      case atStart => exact ⟨0, Nat.zero_le _, rfl, by simpa [bids, blks, newI] using hJs, Lib.hid (by simpa [bids, blks, newI] using HI.out)⟩
      case round =>
        obtain ⟨k2, hk2, rfl, hJ2, HI2⟩ := hrel
        clear hJs HI
        by_cases hlt2 : k2 < m
        · obtain ⟨b, off, e, rfl, he, hok, h9⟩ := (HIB.out.over HI2.out.1).at_ hlt2
          have HE := Lib.hid he
          have HO := Lib.hid hok
          obtain ⟨p0, p1, p2, p3, p4, p5, p6, p7, p8⟩ := h9
          have hcB2 : wr.cell? ⟨Bt, 0, none⟩ = some (.slice (some ⟨g, 0, none⟩) T.length T.length) := by rw [Joins.cell_of_block HI2.out.2.2.1]; rfl
          have hBlt := World.block_lt_of_cell? wr _ hcB2
          simp only at hBlt
          clear he hok
          have hltn2 : (k2 : Int) < m := by omega
          have hkT : (k : Int) ≤ T.length := by omega
          have hk0 : (0 : Int) ≤ k := by omega
          have hT100 : (T.length : Int) ≤ 100 := by omega
          gi_wp2
          have HB1 := Lib.hid (heap_alloc_new wr (.cells (elB e).toArray 39))
          have B2 := below_alloc wr (.cells (elB e).toArray 39)
          obtain ⟨W1, hW1⟩ : ∃ W1, wr.alloc (.cells #[.int .i64 e.1.id, .int .i64 e.1.kd, .string ⟨e.1.tx.toArray⟩, .int .i64 e.1.st, .int .i64 e.1.rf, .int .i64 e.1.lb.u, .slice e.2.1 e.2.2.1 e.2.2.2, .int .i64 e.1.lb.ap, .int .i64 e.1.lb.d] 39) = W1 := ⟨_, rfl⟩
          rw [hW1]
          rw [show wr.alloc (.cells (elB e).toArray 39) = W1 from hW1] at HB1 B2
          obtain ⟨g0, hg0⟩ : ∃ g0, g0 = wr.heap.size := ⟨_, rfl⟩
          rw [← hg0] at HB1 ⊢
          have HG0 := Lib.hid hg0
          have HN := Lib.hid (newI_succ (ls := (lsI T).take k) HE.out)
          have BB2 := Lib.hid B2
          have C0 := Lib.hid (nine_of HB1.out).1
          clear hW1 hg0 p0 p1 p2 p3 p4 p5 p6 p7 p8 hcB2 hBlt B2
          obtain ⟨wr1, rfl⟩ : ∃ x : World, x = wr := ⟨_, rfl⟩
          gi_loopw [26, 8] (fun p _ wr2 => ∃ k3 : Nat, k3 ≤ k ∧ p = .int .i64 (k3 : Int) ∧ Hid (∀ j t, j < k3 → T[j]? = some t → hasB t.2.2.2 e.1.id = false) ∧ Hid (Below W1.heap.size W1 wr2)) (fun p _ wr2 => k - (intOf p).toNat)
          case atStart => exact ⟨0, Nat.zero_le _, rfl, Lib.hid (fun j t h => by omega), Lib.hid (Below.refl _ _)⟩
          case round =>
            obtain ⟨k3, hk3, rfl, hall, bw3⟩ := hrel
            have BW3 := Lib.hid (belowOver HI2.out.1 (Nat.le_refl _) (bel2 BB2.out bw3.out))
            have c0 := cellOver bw3.out C0.out
            have hg0w := World.block_lt_of_cell? wr _ c0
            simp only at hg0w
            by_cases hlt3 : k3 < k
            · have ht3 := List.getElem?_eq_getElem (l := T) (i := k3) (by omega)
              generalize T[k3]'(by omega) = t3 at ht3
              obtain ⟨a3, m3, cc3, es3⟩ := t3
              have hcell3 := cellOver bw3.out (cellOver BB2.out (HI2.out.2.1.hc k3 _ ht3))
              simp only at hcell3
              have K := Lib.hid (contg_any a3 m3 cc3 es3 e.1.id g0 wr ((HL.out.hb _ (List.mem_of_getElem? ht3)).over BW3.out) c0)
              have HT3 := Lib.hid ht3
              have hltn3 : (k3 : Int) < k := by omega
              clear ht3
              cases hh : hasB es3 e.1.id
              · rw [hh] at K
                have HH := Lib.hid hh
                clear hh
                gi_wp2_with (refine ⟨trivial, ?_⟩; gi_at_call 61; refine (callsIn_wide.2 K.out).mono ?_; rintro e w1 ⟨rfl, b1⟩)
                have B1 := Lib.hid (bel2 bw3.out b1)
                clear b1
                go_roundw
                case rel => exact ⟨k3 + 1, by omega, by go_num, Lib.hid (fun j t hj ht => by
                  by_cases ej : j = k3
                  · subst ej; rw [HT3.out] at ht; cases ht; exact HH.out
                  · exact hall.out j t (by omega) ht), B1⟩
                case measure => simp [intOf]; omega
              · rw [hh] at K
                have HH := Lib.hid hh
                clear hh
                gi_wp2_with (refine ⟨trivial, ?_⟩; gi_at_call 61; refine (callsIn_wide.2 K.out).mono ?_; rintro e w1 ⟨rfl, b1⟩)
                have B1 := Lib.hid (bel2 BB2.out (bel2 bw3.out b1))
                have hs := seen_of hlt3 HT3.out HH.out
                have HN2 := HN.out
                rw [hs, if_pos rfl, List.append_nil] at HN2
                refine ⟨⟨k2 + 1, by omega, by go_num, by rw [HN2]; exact hJ _ _ _ hJ2 B1.out, Lib.hid ⟨belowOver HI2.out.1 (Nat.le_refl _) B1.out, HI2.out.2.1.over B1.out, blockOver B1.out HI2.out.2.2.1, by rw [HN2]; have := HI2.out.2.2.2; omega⟩⟩, by simp [intOf]; omega⟩
            · obtain rfl : k3 = k := by omega
              have hs := unseen hall.out
              have HN2 := HN.out
              rw [hs, if_neg (by simp)] at HN2
              have HP := Lib.hid (show idsU (lsI T) k3 ++ newI ((lsI T).take k3) (bids (blks (es.take (k2 + 1)))) = (idsU (lsI T) k3 ++ newI ((lsI T).take k3) (bids (blks (es.take k2)))) ++ [e.1.id] by rw [HN2, List.append_assoc])
              have B1 := Lib.hid (bel2 BB2.out bw3.out)
              have hJ3 := hJ _ _ _ hJ2 B1.out
              have hlen := HI2.out.2.2.2
              obtain ⟨fn, tmps, assign, body, hy, hR⟩ := hY _ e.1.id wr hJ3 (by omega) HO.out.2.2.1
              clear HN2 hs hJ2 hJ3
              gi_wp2
              refine hR.mono ?_
              rintro x W3 (⟨rfl, hJ4, hk4⟩ | ⟨rfl, hJx4⟩)
              · gi_wp2
                have B4 := belowOver HI2.out.1 (Nat.le_refl _) B1.out
                have L4 := (HI2.out.2.1.over B1.out).same hk4.2.2
                have T4 := (hk4.2.1).trans (blockOver B1.out HI2.out.2.2.1)
                refine ⟨⟨k2 + 1, by omega, by go_num, by rw [HP.out]; exact hJ4, Lib.hid ⟨hk4.1 B4, L4, T4, by rw [HP.out, List.length_append, List.length_singleton]; omega⟩⟩, by simp [intOf]; omega⟩
              · gi_wp2
                rw [Exit.noGoto_ret]
                gi_wp2
                refine bodyPost_ret (results_none rfl _ _ _) rfl ?_
                exact ⟨⟨_, rfl⟩, .inr ⟨_, by rw [← HP.out]; exact ids_prefix HT.out (k2 + 1), hJx4⟩⟩
        · obtain rfl : k2 = m := by omega
          have hall : es.take k2 = es := List.take_of_length_le (by rw [HLE.out]; exact Nat.le_refl _)
          rw [hall] at hJ2 HI2
          have HU := Lib.hid (idsU_at HT.out)
          gi_wp2
          refine ⟨⟨k + 1, by omega, by go_num, by rw [HU.out]; exact hJ2, Lib.hid ⟨HI2.out.1, HI2.out.2.1, HI2.out.2.2.1, by rw [HU.out]; have := HI2.out.2.2.2; omega⟩⟩, by simp [intOf]; omega⟩
    · obtain rfl : k = T.length := by omega
      gi_wp2
      go_end0
      exact ⟨⟨_, rfl⟩, .inl ⟨_, rfl, hJs⟩⟩
end Go.Proofs.YtelipjjjlgnjoaaGreatDoor
