/- Make: the label that four integers give. -/
import Derived.Test.YthpginepnleokaaLabW5
import Derived.RegionTactic
import Derived.ChangeAlike
import Derived.BigRegion
import Derived.OwnWalk
import Derived.Deep.RegionWith
import Derived.Deep.RegionHeld3
import Derived.Deep.CutRange
import Derived.StillTailTactics
import Derived.Laws.OwnMore
import Derived.Maps.AppendAt
import Derived.Lib.BufferWrite
import Derived.Lib.SmallJoins

namespace Go.Proofs.Ythpginepnleokaa
open Go.RowKit
theorem own_slice {w : World} {base : Nat} {e : TypeId} {size : Nat} {v : Value} {n : Nat} {xs : List Value} (h : w.ownsRow base e size v n xs) : ∃ a c, v = .slice a n c := by
  rcases h.2 with ⟨rfl, rfl⟩ | ⟨g, cap, cur, rfl, _⟩
  · exact ⟨_, _, rfl⟩
  · exact ⟨_, _, rfl⟩
theorem own_mono {w : World} {base base' : Nat} {e : TypeId} {size : Nat} {v : Value} {n : Nat} {xs : List Value} (h : w.ownsRow base e size v n xs) (hb : base' ≤ base) : w.ownsRow base' e size v n xs :=
  ⟨h.1, h.2.imp id fun ⟨g, cap, cur, h1, h2, h3⟩ => ⟨g, cap, cur, h1, Nat.le_trans hb h2, h3⟩⟩
theorem three_blocks (w : World) (o1 o2 o3 : Obj) : (((w.alloc o1).alloc o2).alloc o3).drew.heap[w.heap.size]? = some o1 ∧ (((w.alloc o1).alloc o2).alloc o3).drew.heap[w.heap.size + 1]? = some o2 ∧ (((w.alloc o1).alloc o2).alloc o3).drew.heap[w.heap.size + 2]? = some o3 ∧
    (((w.alloc o1).alloc o2).alloc o3).drew.heap.size = w.heap.size + 3 ∧ Below w.heap.size w (((w.alloc o1).alloc o2).alloc o3).drew := by
  refine ⟨?_, ?_, ?_, by simp, ((((Below.refl _ _).alloc (Nat.le_refl _) _).alloc (by simp) _).alloc (by simp; omega) _).drew⟩
  · show ((((w.alloc o1).alloc o2).alloc o3)).heap[w.heap.size]? = _
    rw [Below.heap_alloc _ _ _ (by simp; omega), Below.heap_alloc _ _ _ (by simp), heap_alloc_new]
  · show ((((w.alloc o1).alloc o2).alloc o3)).heap[w.heap.size + 1]? = _
    rw [Below.heap_alloc _ _ _ (by simp)]
    have := heap_alloc_new (w.alloc o1) o2
    simpa using this
  · show (((w.alloc o1).alloc o2).alloc o3).heap[w.heap.size + 1 + 1]? = _
    have := heap_alloc_new ((w.alloc o1).alloc o2) o3
    simpa using this
def bitsOf (x : Int) (id : Int) : Bool := bits BinOp.and IntKind.u64 (IntKind.u64.wrap x / 2 ^ (id - 1).toNat) 1 == 1
def idsTo (k : Nat) : List Int := (List.range k).map fun (i : Nat) => (i : Int) + 1
def makeAf (x : Int) (k : Nat) : List Int := (idsTo k).filter fun z => bitsOf x z
theorem idsTo_succ (k : Nat) : idsTo (k + 1) = idsTo k ++ [(k : Int) + 1] := by simp [idsTo, List.range_succ]
theorem makeAf_yes (x : Int) (k : Nat) (h : bitsOf x ((k : Int) + 1) = true) : makeAf x (k + 1) = makeAf x k ++ [(k : Int) + 1] := by simp [makeAf, idsTo_succ, h]
theorem makeAf_no (x : Int) (k : Nat) (h : bitsOf x ((k : Int) + 1) = false) : makeAf x (k + 1) = makeAf x k := by simp [makeAf, idsTo_succ, h]
theorem makeAf_len (x : Int) (k : Nat) : (makeAf x k).length ≤ k := by
  have := List.length_filter_le (fun z => bitsOf x z) (idsTo k)
  simpa [makeAf, idsTo] using this
def makeL (x0 x1 x2 x3 : Int) : Lab := ⟨pck x0 1000000001, makeAf x1 64, pck x2 6, pck x3 16⟩
theorem intInfo : (Try.prog.info? 3).map (fun i => (i.zero, i.size, i.bytes)) = some (some (.int .i64 0), 1, 8) := by kernel_rfl
set_option maxRecDepth 100000 in
set_option maxHeartbeats 4000000 in
theorem make_any (x0 x1 x2 x3 : Int) (w : World) (h0 : Bd x0) (h1 : Bd x1) (h2 : Bd x2) (h3 : Bd x3) :
    Calls Try.prog 14 #[.agg #[.int .i64 x0, .int .i64 x1, .int .i64 x2, .int .i64 x3]] w fun e w' => ∃ a n c, e = .returned (.agg #[.int .i64 (makeL x0 x1 x2 x3).u, .slice a n c, .int .i64 (makeL x0 x1 x2 x3).ap, .int .i64 (makeL x0 x1 x2 x3).d]) ∧
      w'.ownsRow w.heap.size 3 1 (.slice a n c) n ((makeL x0 x1 x2 x3).af.map (Value.int .i64)) ∧ Below w.heap.size w w' := by
  unfold Bd at h0 h1 h2 h3
  obtain ⟨h00, h01⟩ := h0
  obtain ⟨h10, h11⟩ := h1
  obtain ⟨h20, h21⟩ := h2
  obtain ⟨h30, h31⟩ := h3
  go_enter Try.func14, Try.ntmps14
  go_wp2_with fail
  go_cut [3] from 5 to 14 (fun s wr => s = .pointer (some ⟨w.heap.size + 2, 0, none⟩) ∧ wr.heap[w.heap.size]? = some (.cells #[.int .i64 x0, .int .i64 x1, .int .i64 x2, .int .i64 x3] 22 (0, 0)) ∧
     wr.heap[w.heap.size + 1]? = some (.cells #[.int .i64 0, .slice none 0 0, .int .i64 0, .int .i64 0] 26 (0, 0)) ∧ wr.heap[w.heap.size + 2]? = some (.cells #[.int .i64 (pck x0 1000000001), .slice none 0 0, .int .i64 (pck x2 6), .int .i64 (pck x3 16)] 26 (0, 0)) ∧ wr.heap.size = w.heap.size + 3 ∧ Below w.heap.size w wr)
  case first =>
    have hs0 : (w.alloc (.cells #[.int .i64 x0, .int .i64 x1, .int .i64 x2, .int .i64 x3] 22)).heap.size = w.heap.size + 1 := by simp
    go_region_held3 (fun w' => w'.cell? ⟨w.heap.size, 0, none⟩ = some (.int .i64 x0) ∧ w'.cell? ⟨w.heap.size, 2, none⟩ = some (.int .i64 x2) ∧ w'.cell? ⟨w.heap.size, 3, none⟩ = some (.int .i64 x3)) (go_keep) ((go_at_call 27; refine (pick_any _ _ _ (by omega) (by omega) (by omega)).mono ?_; rintro e w' ⟨rfl, rfl⟩))
    all_goals
      go_wp2_with fail
      go_meet
    all_goals exact ⟨rfl, three_blocks w _ _ _⟩
  case rest =>
    obtain ⟨rfl, hb0, hb1, hb2, hsz, bel⟩ := hcut
    obtain ⟨i0, hi, hz0, hz1, hz2⟩ := info_parts intInfo
    have B3 : w.heap.size + 3 ≤ wc.heap.size := by omega
    go_wp2_with fail
    go_loopw [4] (fun i wr => ∃ (k : Nat) (v : Value), k ≤ 64 ∧ i = .int .i64 ((k : Int) + 1) ∧ wr.heap[w.heap.size]? = some (.cells #[.int .i64 x0, .int .i64 x1, .int .i64 x2, .int .i64 x3] 22 (0, 0)) ∧
       wr.heap[w.heap.size + 1]? = some (.cells #[.int .i64 0, .slice none 0 0, .int .i64 0, .int .i64 0] 26 (0, 0)) ∧ wr.heap[w.heap.size + 2]? = some (.cells #[.int .i64 (pck x0 1000000001), v, .int .i64 (pck x2 6), .int .i64 (pck x3 16)] 26 (0, 0)) ∧
       wr.ownsRow (w.heap.size + 3) 3 1 v (makeAf x1 k).length ((makeAf x1 k).map (Value.int .i64)) ∧ w.heap.size + 3 ≤ wr.heap.size ∧ Below w.heap.size w wr) (fun i _ => 65 - (intOf i).toNat)
    case atStart => exact ⟨0, _, by omega, rfl, hb0, hb1, hb2, by simpa [makeAf, idsTo] using World.ownsRow_nil _ _ _ _, B3, bel⟩
    case round =>
      obtain ⟨k, v, hk, rfl, hb0, hb1, hb2, hown, hsz, bel⟩ := hrel
      have c1 : wr.cell? ⟨w.heap.size, 1, none⟩ = some (.int .i64 x1) := by rw [Joins.cell_of_block hb0]; rfl
      have c2 : wr.cell? ⟨w.heap.size + 2, 1, none⟩ = some v := by rw [Joins.cell_of_block hb2]; rfl
      have f2 : wr.frozen? ⟨w.heap.size + 2, 1, none⟩ = false := Joins.unfrozen_of_block hb2 1
      have kk0 : (0 : Int) ≤ k := by omega
      by_cases hlt : k < 64
      · have hle : (k : Int) + 1 ≤ 64 := by omega
        have OWN := Lib.hid hown
        have HB0 := Lib.hid hb0
        have HB1 := Lib.hid hb1
        have HB2 := Lib.hid hb2
        clear hb0 hb1 hb2 hown
        cases hbit : bitsOf x1 ((k : Int) + 1)
        · have hbt : (bits BinOp.and IntKind.u64 (IntKind.u64.wrap x1 / 2 ^ k) 1 == 1) = false := by simpa [bitsOf] using hbit
          have HB := Lib.hid (makeAf_no x1 k hbit)
          clear hbit
          go_wp2
          exact ⟨⟨k + 1, v, by omega, by go_num, HB0.out, HB1.out, HB2.out, by rw [HB.out]; exact OWN.out, hsz, bel⟩, by simp [intOf]; omega⟩
        · have hbt : (bits BinOp.and IntKind.u64 (IntKind.u64.wrap x1 / 2 ^ k) 1 == 1) = true := by simpa [bitsOf] using hbit
          have HB := Lib.hid (makeAf_yes x1 k hbit)
          have hlen := makeAf_len x1 k
          clear hbit
          go_wp2_with (at_builtin; refine wpList_append_own _ rfl (.tmp 28) (.tmp 30) 23 rfl (w.heap.size + 3) 3 i0 (.int .i64 0) 1 8 Try.underlying23 hi hz0 hz1 hz2 rfl (by decide) v (makeAf x1 k).length ((makeAf x1 k).map (Value.int .i64)) rfl (OWN.out.alloc _) ⟨wr.heap.size, 0, none⟩ 1 1 [.int .i64 ((k : Int) + 1)] rfl rfl (cell_one_new _ _ _) (by simp [Value.oneCell']) (by unfold maxLen; omega) (by omega) (by simp; omega) ?_; intro v' w1 hown1 hg _; obtain ⟨a', c', rfl⟩ := own_slice hown1; have g2 : w1.heap[w.heap.size + 2]? = some (.cells #[.int .i64 (pck x0 1000000001), v, .int .i64 (pck x2 6), .int .i64 (pck x3 16)] 26 (0, 0)) := (hg.block _ (by simp; omega) (fun e => by have := (OWN.out.lt _ e.symm).1; omega)).trans ((Below.heap_alloc _ _ _ (by omega)).trans HB2.out); have c2' : w1.cell? ⟨w.heap.size + 2, 1, none⟩ = some v := (by rw [Joins.cell_of_block g2]; rfl); have f2' : w1.frozen? ⟨w.heap.size + 2, 1, none⟩ = false := Joins.unfrozen_of_block g2 1)
          have g0 : w1.heap[w.heap.size]? = some (.cells #[.int .i64 x0, .int .i64 x1, .int .i64 x2, .int .i64 x3] 22 (0, 0)) := (hg.block _ (by simp; omega) (fun e => by have := (OWN.out.lt _ e.symm).1; omega)).trans ((Below.heap_alloc _ _ _ (by omega)).trans HB0.out)
          have g1 : w1.heap[w.heap.size + 1]? = some (.cells #[.int .i64 0, .slice none 0 0, .int .i64 0, .int .i64 0] 26 (0, 0)) := (hg.block _ (by simp; omega) (fun e => by have := (OWN.out.lt _ e.symm).1; omega)).trans ((Below.heap_alloc _ _ _ (by omega)).trans HB1.out)
          have bel1 : Below w.heap.size w w1 := (bel.alloc bel.size _).grown hg (by have := bel.size; simp; omega) (fun q hq => by have := (OWN.out.lt _ hq).1; omega)
          refine ⟨⟨k + 1, .slice a' ((makeAf x1 k).length + 1) c', by omega, by go_num, ?_, ?_, ?_, ?_, ?_, ?_⟩, by simp [intOf]; omega⟩
          · exact (Below.heap_setCell _ _ _ _ (by simp)).trans g0
          · exact (Below.heap_setCell _ _ _ _ (by simp)).trans g1
          · exact Joins.block_setCell g2 _
          · rw [HB.out, List.map_append, List.length_append]
            exact (hown1.kept (Lib.grownBy_setCell _ _ _ _) (by
              rcases hv : Value.ownBlock _ with _ | q
              · exact .inl rfl
              · right; intro e
                have := (hown1.lt _ hv).1
                injection e with e
                omega))
          · have := hg.size; simp at this ⊢; omega
          · exact bel1.setCell (by simp) _
      · obtain rfl : k = 64 := by omega
        have d0 : wr.cell? ⟨w.heap.size + 2, 0, none⟩ = some (.int .i64 (pck x0 1000000001)) := by rw [Joins.cell_of_block hb2]; rfl
        have d2 : wr.cell? ⟨w.heap.size + 2, 2, none⟩ = some (.int .i64 (pck x2 6)) := by rw [Joins.cell_of_block hb2]; rfl
        have d3 : wr.cell? ⟨w.heap.size + 2, 3, none⟩ = some (.int .i64 (pck x3 16)) := by rw [Joins.cell_of_block hb2]; rfl
        have e0 : wr.cell? ⟨w.heap.size + 1, 0, none⟩ = some (.int .i64 0) := by rw [Joins.cell_of_block hb1]; rfl
        have e1 : wr.cell? ⟨w.heap.size + 1, 1, none⟩ = some (.slice none 0 0) := by rw [Joins.cell_of_block hb1]; rfl
        have e2 : wr.cell? ⟨w.heap.size + 1, 2, none⟩ = some (.int .i64 0) := by rw [Joins.cell_of_block hb1]; rfl
        have e3 : wr.cell? ⟨w.heap.size + 1, 3, none⟩ = some (.int .i64 0) := by rw [Joins.cell_of_block hb1]; rfl
        have r0 := Joins.unfrozen_of_block hb1 0
        have r1 := Joins.unfrozen_of_block hb1 1
        have r2 := Joins.unfrozen_of_block hb1 2
        have r3 := Joins.unfrozen_of_block hb1 3
        have OWN := Lib.hid hown
        clear hb0 hb1 hb2 hown
        obtain ⟨a', c', rfl⟩ := own_slice OWN.out
        go_wp2
        refine bodyPost_ret (v := .agg #[.int .i64 (pck x0 1000000001), .slice a' (makeAf x1 64).length c', .int .i64 (pck x2 6), .int .i64 (pck x3 16)]) (by simp [results, Try.results14, go_sem, e0, e1, e2, e3]) rfl ⟨a', _, c', rfl, ?_, ?_⟩
        · exact own_mono (ownsRow_setCell_below (ownsRow_setCell_below (ownsRow_setCell_below (ownsRow_setCell_below OWN.out (by simp) _) (by simp) _) (by simp) _) (by simp) _) (by omega)
        · exact (((bel.setCell (by simp) _).setCell (by simp) _).setCell (by simp) _).setCell (by simp) _
end Go.Proofs.Ythpginepnleokaa
