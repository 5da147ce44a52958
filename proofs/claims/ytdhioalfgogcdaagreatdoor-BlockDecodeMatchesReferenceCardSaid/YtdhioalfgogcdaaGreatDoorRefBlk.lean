/- The reference reads a block: what it returns, for all strings. -/
import Derived.Test.YtdhioalfgogcdaaGreatDoorRefDec
import Derived.Deep.LoopGhost
import Derived.Maps.AppendAt
import Derived.Lib.AppendZeros
namespace Go.Proofs.YtdhioalfgogcdaaGreatDoor
open Go.RowKit Go.MapKept
set_option maxRecDepth 100000
set_option linter.unusedSimpArgs false
set_option linter.unusedVariables false
theorem rfI_bd (s : List UInt8) (σ : Int × Int) : Bd (rfI s σ).1 := by
  unfold rfI
  split
  · unfold Bd; omega
  · split
    · unfold Bd; omega
    · exact intAt_bd _ _
theorem rfNI_bd (s : List UInt8) : ∀ (n : Nat) (σ : Int × Int), ∀ z ∈ (rfN (rfI s) n σ).1, Bd z
  | 0, σ => by simp [rfN]
  | n + 1, σ => by
    intro z hz
    rw [rfN] at hz
    split at hz
    · simp at hz
    · rcases List.mem_cons.1 hz with rfl | hz
      · exact rfI_bd _ _
      · exact rfNI_bd s n _ z hz
theorem rfN_len {α : Type} (f : Int × Int → α × (Int × Int)) : ∀ (n : Nat) (σ : Int × Int), (rfN f n σ).1.length ≤ n
  | 0, σ => by simp [rfN]
  | n + 1, σ => by
    rw [rfN]
    split
    · simp
    · have := rfN_len f n (f σ).2
      simp only [List.length_cons]; omega
theorem rfC_nat (s : List UInt8) (most : Int) (hm : 0 ≤ most) (σ : Int × Int) : 0 ≤ (rfC s most σ).1 ∧ (rfC s most σ).1 ≤ most := by
  unfold rfC
  split
  · exact ⟨Int.le_refl _, hm⟩
  · split
    · rename_i h; simpa [inB] using h
    · exact ⟨Int.le_refl _, hm⟩
theorem numInfo : (Tryz.prog.info? 3).map (fun i => (i.zero, i.size, i.bytes)) = some (some (.int .i64 0), 1, 8) := by kernel_rfl
theorem rfN_step {α : Type} {f : Int × Int → α × (Int × Int)} {N k : Nat} {σ7 σ : Int × Int} {L : List α} (hk : k < N) (h0 : σ.2 = 0) (h : rfN f N σ7 = (L ++ (rfN f (N - k) σ).1, (rfN f (N - k) σ).2)) :
    rfN f N σ7 = ((L ++ [(f σ).1]) ++ (rfN f (N - (k + 1)) (f σ).2).1, (rfN f (N - (k + 1)) (f σ).2).2) := by
  rw [h, show N - k = (N - (k + 1)) + 1 by omega, rfN, if_neg (by simp [h0])]
  simp
theorem rfN_end {α : Type} {f : Int × Int → α × (Int × Int)} {N k : Nat} {σ7 σ : Int × Int} {L : List α} (hk : k = N ∨ σ.2 ≠ 0) (h : rfN f N σ7 = (L ++ (rfN f (N - k) σ).1, (rfN f (N - k) σ).2)) : rfN f N σ7 = (L, σ) := by
  rcases hk with rfl | hk
  · rw [h, Nat.sub_self, rfN]; simp
  · cases hm : N - k with
    | zero => rw [h, hm, rfN]; simp
    | succ m => rw [h, hm, rfN, if_pos hk]; simp
/-- Nine values stored. -/
def put9V (w : World) (g : Nat) (v0 v1 v2 v3 v4 v5 v6 v7 v8 : Value) : World := ((((((((w.setCell ⟨g, 0, none⟩ v0).setCell ⟨g, 1, none⟩ v1).setCell ⟨g, 2, none⟩ v2).setCell ⟨g, 3, none⟩ v3).setCell ⟨g, 4, none⟩ v4).setCell ⟨g, 5, none⟩ v5).setCell ⟨g, 6, none⟩ v6).setCell ⟨g, 7, none⟩ v7).setCell ⟨g, 8, none⟩ v8
theorem put9V_block {w : World} {g : Nat} {a0 a1 a2 a3 a4 a5 a6 a7 a8 : Value} {t : TypeId} {fr : Nat × Nat} (h : w.heap[g]? = some (.cells #[a0, a1, a2, a3, a4, a5, a6, a7, a8] t fr)) (v0 v1 v2 v3 v4 v5 v6 v7 v8 : Value) :
    (put9V w g v0 v1 v2 v3 v4 v5 v6 v7 v8).heap[g]? = some (.cells #[v0, v1, v2, v3, v4, v5, v6, v7, v8] t fr) := by
  have h0 : (w.setCell ⟨g, 0, none⟩ v0).heap[g]? = some (.cells #[v0, a1, a2, a3, a4, a5, a6, a7, a8] t fr) := Joins.block_setCell h _
  have h1 : ((w.setCell ⟨g, 0, none⟩ v0).setCell ⟨g, 1, none⟩ v1).heap[g]? = some (.cells #[v0, v1, a2, a3, a4, a5, a6, a7, a8] t fr) := Joins.block_setCell h0 _
  have h2 : (((w.setCell ⟨g, 0, none⟩ v0).setCell ⟨g, 1, none⟩ v1).setCell ⟨g, 2, none⟩ v2).heap[g]? = some (.cells #[v0, v1, v2, a3, a4, a5, a6, a7, a8] t fr) := Joins.block_setCell h1 _
  have h3 : ((((w.setCell ⟨g, 0, none⟩ v0).setCell ⟨g, 1, none⟩ v1).setCell ⟨g, 2, none⟩ v2).setCell ⟨g, 3, none⟩ v3).heap[g]? = some (.cells #[v0, v1, v2, v3, a4, a5, a6, a7, a8] t fr) := Joins.block_setCell h2 _
  have h4 : (((((w.setCell ⟨g, 0, none⟩ v0).setCell ⟨g, 1, none⟩ v1).setCell ⟨g, 2, none⟩ v2).setCell ⟨g, 3, none⟩ v3).setCell ⟨g, 4, none⟩ v4).heap[g]? = some (.cells #[v0, v1, v2, v3, v4, a5, a6, a7, a8] t fr) := Joins.block_setCell h3 _
  have h5 : ((((((w.setCell ⟨g, 0, none⟩ v0).setCell ⟨g, 1, none⟩ v1).setCell ⟨g, 2, none⟩ v2).setCell ⟨g, 3, none⟩ v3).setCell ⟨g, 4, none⟩ v4).setCell ⟨g, 5, none⟩ v5).heap[g]? = some (.cells #[v0, v1, v2, v3, v4, v5, a6, a7, a8] t fr) := Joins.block_setCell h4 _
  have h6 : (((((((w.setCell ⟨g, 0, none⟩ v0).setCell ⟨g, 1, none⟩ v1).setCell ⟨g, 2, none⟩ v2).setCell ⟨g, 3, none⟩ v3).setCell ⟨g, 4, none⟩ v4).setCell ⟨g, 5, none⟩ v5).setCell ⟨g, 6, none⟩ v6).heap[g]? = some (.cells #[v0, v1, v2, v3, v4, v5, v6, a7, a8] t fr) := Joins.block_setCell h5 _
  have h7 : ((((((((w.setCell ⟨g, 0, none⟩ v0).setCell ⟨g, 1, none⟩ v1).setCell ⟨g, 2, none⟩ v2).setCell ⟨g, 3, none⟩ v3).setCell ⟨g, 4, none⟩ v4).setCell ⟨g, 5, none⟩ v5).setCell ⟨g, 6, none⟩ v6).setCell ⟨g, 7, none⟩ v7).heap[g]? = some (.cells #[v0, v1, v2, v3, v4, v5, v6, v7, a8] t fr) := Joins.block_setCell h6 _
  exact Joins.block_setCell h7 _
theorem put9V_other {w : World} {g k : Nat} (hk : k ≠ g) (v0 v1 v2 v3 v4 v5 v6 v7 v8 : Value) : (put9V w g v0 v1 v2 v3 v4 v5 v6 v7 v8).heap[k]? = w.heap[k]? := by
  unfold put9V
  iterate 9 rw [Below.heap_setCell _ _ _ _ (by exact hk)]
theorem put9V_keeps {R g : Nat} {a w : World} (h : Keeps R a w) (hg : a.heap.size ≤ g) (v0 v1 v2 v3 v4 v5 v6 v7 v8 : Value) : Keeps R a (put9V w g v0 v1 v2 v3 v4 v5 v6 v7 v8) :=
  ((((((((h.setNew hg 0 v0).setNew hg 1 v1).setNew hg 2 v2).setNew hg 3 v3).setNew hg 4 v4).setNew hg 5 v5).setNew hg 6 v6).setNew hg 7 v7).setNew hg 8 v8
theorem put9V_own {w : World} {base : Nat} {t : TypeId} {size : Nat} {v : Value} {n : Nat} {xs : List Value} {g : Nat} (h : w.ownsRow base t size v n xs) (hg : g < base) (v0 v1 v2 v3 v4 v5 v6 v7 v8 : Value) : (put9V w g v0 v1 v2 v3 v4 v5 v6 v7 v8).ownsRow base t size v n xs := by
  unfold put9V
  iterate 9 refine ownsRow_setCell_below (ha := by exact hg) ?_ _
  exact h
def RfBlk (R : Nat) (s : ByteArray) (r : Blk × (Int × Int)) (w : World) (e : Ending) (w' : World) : Prop :=
  ∃ a c, e = .returned (blkV r.1 a r.1.lb.af.length c) ∧ w'.ownsRow w.heap.size 3 1 (.slice a r.1.lb.af.length c) r.1.lb.af.length (r.1.lb.af.map (Value.int .i64)) ∧ RfAt w' R s r.2 ∧ Keeps R w w'
set_option maxHeartbeats 16000000 in
theorem rfblk_walk (R : Nat) (s : ByteArray) (w : World) (hs : s.size ≤ maxLen) (hRw : R < w.heap.size) (x0 x1 x3 x4 x5 : Int) (N : Nat) (hN : N ≤ 64) (x2 : List UInt8) (σ0 σ1 σ2 σ3 σ4 σ5 σ6 σ7 : Int × Int) (r : Blk × (Int × Int)) (h : RfAt w R s σ0)
    (K0 : Hid (∀ W, RfAt W R s σ0 → Calls Tryz.prog 40 #[.pointer (some ⟨R, 0, none⟩)] W fun e w' => e = .returned (.int .i64 x0) ∧ RfAt w' R s σ1 ∧ Keeps R W w'))
    (K1 : Hid (∀ W, RfAt W R s σ1 → Calls Tryz.prog 40 #[.pointer (some ⟨R, 0, none⟩)] W fun e w' => e = .returned (.int .i64 x1) ∧ RfAt w' R s σ2 ∧ Keeps R W w'))
    (K2 : Hid (∀ W, RfAt W R s σ2 → Calls Tryz.prog 41 #[.pointer (some ⟨R, 0, none⟩)] W fun e w' => e = .returned (.string ⟨x2.toArray⟩) ∧ RfAt w' R s σ3 ∧ Keeps R W w'))
    (K3 : Hid (∀ W, RfAt W R s σ3 → Calls Tryz.prog 40 #[.pointer (some ⟨R, 0, none⟩)] W fun e w' => e = .returned (.int .i64 x3) ∧ RfAt w' R s σ4 ∧ Keeps R W w'))
    (K4 : Hid (∀ W, RfAt W R s σ4 → Calls Tryz.prog 40 #[.pointer (some ⟨R, 0, none⟩)] W fun e w' => e = .returned (.int .i64 x4) ∧ RfAt w' R s σ5 ∧ Keeps R W w'))
    (K5 : Hid (∀ W, RfAt W R s σ5 → Calls Tryz.prog 40 #[.pointer (some ⟨R, 0, none⟩)] W fun e w' => e = .returned (.int .i64 x5) ∧ RfAt w' R s σ6 ∧ Keeps R W w'))
    (K6 : Hid (∀ W, RfAt W R s σ6 → Calls Tryz.prog 16 #[.pointer (some ⟨R, 0, none⟩), .int .i64 64] W fun e w' => e = .returned (.int .i64 (N : Int)) ∧ RfAt w' R s σ7 ∧ Keeps R W w'))
    (HR : Hid (r = (⟨x0, x1, x2, x3, x4, ⟨x5, (rfN (rfI s.data.toList) N σ7).1, (rfI s.data.toList (rfN (rfI s.data.toList) N σ7).2).1, (rfI s.data.toList (rfI s.data.toList (rfN (rfI s.data.toList) N σ7).2).2).1⟩⟩, (rfI s.data.toList (rfI s.data.toList (rfN (rfI s.data.toList) N σ7).2).2).2))) :
    Calls Tryz.prog 17 #[.pointer (some ⟨R, 0, none⟩)] w (RfBlk R s r w) := by
  have HS := Lib.hid hs
  have HGET := allocs_get w [(.cells #[.int .i64 0, .int .i64 0, .string ⟨#[]⟩, .int .i64 0, .int .i64 0, .int .i64 0, .slice none 0 0, .int .i64 0, .int .i64 0] 33 (0, 0)), (.cells #[.int .i64 0, .int .i64 0, .string ⟨#[]⟩, .int .i64 0, .int .i64 0, .int .i64 0, .slice none 0 0, .int .i64 0, .int .i64 0] 33 (0, 0))]
  have HBEL := allocs_below w [(.cells #[.int .i64 0, .int .i64 0, .string ⟨#[]⟩, .int .i64 0, .int .i64 0, .int .i64 0, .slice none 0 0, .int .i64 0, .int .i64 0] 33 (0, 0)), (.cells #[.int .i64 0, .int .i64 0, .string ⟨#[]⟩, .int .i64 0, .int .i64 0, .int .i64 0, .slice none 0 0, .int .i64 0, .int .i64 0] 33 (0, 0))] w (Below.refl _ _)
  obtain ⟨V, hV⟩ : ∃ V, allocs w [(.cells #[.int .i64 0, .int .i64 0, .string ⟨#[]⟩, .int .i64 0, .int .i64 0, .int .i64 0, .slice none 0 0, .int .i64 0, .int .i64 0] 33 (0, 0)), (.cells #[.int .i64 0, .int .i64 0, .string ⟨#[]⟩, .int .i64 0, .int .i64 0, .int .i64 0, .slice none 0 0, .int .i64 0, .int .i64 0] 33 (0, 0))] = V := ⟨_, rfl⟩
  rw [hV] at HGET HBEL
  have G0 := Lib.hid (show V.heap[w.heap.size]? = some (.cells #[.int .i64 0, .int .i64 0, .string ⟨#[]⟩, .int .i64 0, .int .i64 0, .int .i64 0, .slice none 0 0, .int .i64 0, .int .i64 0] 33 (0, 0)) from HGET 0)
  have B0 := Lib.hid (show V.heap[w.heap.size + 1]? = some (.cells #[.int .i64 0, .int .i64 0, .string ⟨#[]⟩, .int .i64 0, .int .i64 0, .int .i64 0, .slice none 0 0, .int .i64 0, .int .i64 0] 33 (0, 0)) from HGET 1)
  have D0 := Lib.hid (rf_over HBEL h)
  have P0 := Lib.hid (Keeps.of_below (R := R) HBEL)
  have hV1 : w.heap.size + 1 < V.heap.size := (Array.getElem?_eq_some_iff.1 B0.out).1
  have hn0 : R ≠ w.heap.size := by omega
  have hn1 : R ≠ w.heap.size + 1 := by omega
  have HN0 := Lib.hid hn0
  have HN1 := Lib.hid hn1
  simp only [allocs, List.foldl_cons, List.foldl_nil] at hV
  subst hV
  clear HGET HBEL h hn0 hn1 hs
  go_enter Tryz.func17, Tryz.ntmps17
  go_wp2_with fail
  refine (K0.out _ D0.out).mono ?_
  rintro e w1 ⟨rfl, d, kp⟩
  have g := kp.heap G0.out HN0.out.symm
  have b := kp.heap B0.out HN1.out.symm
  have f := Joins.unfrozen_of_block b 0
  obtain ⟨r0, r1, r2, r3, r4, r5, r6, r7, r8⟩ := nine_any b
  have G1 := Lib.hid (show (w1.setCell ⟨w.heap.size + 1, 0, none⟩ (.int .i64 x0)).heap[w.heap.size]? = some (.cells #[.int .i64 0, .int .i64 0, .string ⟨#[]⟩, .int .i64 0, .int .i64 0, .int .i64 0, .slice none 0 0, .int .i64 0, .int .i64 0] 33 (0, 0)) from (Below.heap_setCell _ _ _ _ (by simp)).trans g)
  have B1 := Lib.hid (show (w1.setCell ⟨w.heap.size + 1, 0, none⟩ (.int .i64 x0)).heap[w.heap.size + 1]? = some (.cells #[.int .i64 x0, .int .i64 0, .string ⟨#[]⟩, .int .i64 0, .int .i64 0, .int .i64 0, .slice none 0 0, .int .i64 0, .int .i64 0] 33 (0, 0)) from Joins.block_setCell b _)
  have D1 := Lib.hid (rf_setNew d HN1.out 0 (.int .i64 x0))
  have P1 := Lib.hid ((P0.out.trans kp).setNew (Nat.le_succ _) 0 (.int .i64 x0))
  clear g b d kp G0 B0 D0 P0 K0 r1 r2 r3 r4 r5 r6 r7 r8
  go_wp2_with fail
  clear f r0
  refine (K1.out _ D1.out).mono ?_
  rintro e w2 ⟨rfl, d, kp⟩
  have g := kp.heap G1.out HN0.out.symm
  have b := kp.heap B1.out HN1.out.symm
  have f := Joins.unfrozen_of_block b 1
  obtain ⟨r0, r1, r2, r3, r4, r5, r6, r7, r8⟩ := nine_any b
  have G2 := Lib.hid (show (w2.setCell ⟨w.heap.size + 1, 1, none⟩ (.int .i64 x1)).heap[w.heap.size]? = some (.cells #[.int .i64 0, .int .i64 0, .string ⟨#[]⟩, .int .i64 0, .int .i64 0, .int .i64 0, .slice none 0 0, .int .i64 0, .int .i64 0] 33 (0, 0)) from (Below.heap_setCell _ _ _ _ (by simp)).trans g)
  have B2 := Lib.hid (show (w2.setCell ⟨w.heap.size + 1, 1, none⟩ (.int .i64 x1)).heap[w.heap.size + 1]? = some (.cells #[.int .i64 x0, .int .i64 x1, .string ⟨#[]⟩, .int .i64 0, .int .i64 0, .int .i64 0, .slice none 0 0, .int .i64 0, .int .i64 0] 33 (0, 0)) from Joins.block_setCell b _)
  have D2 := Lib.hid (rf_setNew d HN1.out 1 (.int .i64 x1))
  have P2 := Lib.hid ((P1.out.trans kp).setNew (Nat.le_succ _) 1 (.int .i64 x1))
  clear g b d kp G1 B1 D1 P1 K1 r0 r2 r3 r4 r5 r6 r7 r8
  go_wp2_with fail
  clear f r1
  refine (K2.out _ D2.out).mono ?_
  rintro e w3 ⟨rfl, d, kp⟩
  have g := kp.heap G2.out HN0.out.symm
  have b := kp.heap B2.out HN1.out.symm
  have f := Joins.unfrozen_of_block b 2
  obtain ⟨r0, r1, r2, r3, r4, r5, r6, r7, r8⟩ := nine_any b
  have G3 := Lib.hid (show (w3.setCell ⟨w.heap.size + 1, 2, none⟩ (.string ⟨x2.toArray⟩)).heap[w.heap.size]? = some (.cells #[.int .i64 0, .int .i64 0, .string ⟨#[]⟩, .int .i64 0, .int .i64 0, .int .i64 0, .slice none 0 0, .int .i64 0, .int .i64 0] 33 (0, 0)) from (Below.heap_setCell _ _ _ _ (by simp)).trans g)
  have B3 := Lib.hid (show (w3.setCell ⟨w.heap.size + 1, 2, none⟩ (.string ⟨x2.toArray⟩)).heap[w.heap.size + 1]? = some (.cells #[.int .i64 x0, .int .i64 x1, .string ⟨x2.toArray⟩, .int .i64 0, .int .i64 0, .int .i64 0, .slice none 0 0, .int .i64 0, .int .i64 0] 33 (0, 0)) from Joins.block_setCell b _)
  have D3 := Lib.hid (rf_setNew d HN1.out 2 (.string ⟨x2.toArray⟩))
  have P3 := Lib.hid ((P2.out.trans kp).setNew (Nat.le_succ _) 2 (.string ⟨x2.toArray⟩))
  clear g b d kp G2 B2 D2 P2 K2 r0 r1 r3 r4 r5 r6 r7 r8
  go_wp2_with fail
  clear f r2
  refine (K3.out _ D3.out).mono ?_
  rintro e w4 ⟨rfl, d, kp⟩
  have g := kp.heap G3.out HN0.out.symm
  have b := kp.heap B3.out HN1.out.symm
  have f := Joins.unfrozen_of_block b 3
  obtain ⟨r0, r1, r2, r3, r4, r5, r6, r7, r8⟩ := nine_any b
  have G4 := Lib.hid (show (w4.setCell ⟨w.heap.size + 1, 3, none⟩ (.int .i64 x3)).heap[w.heap.size]? = some (.cells #[.int .i64 0, .int .i64 0, .string ⟨#[]⟩, .int .i64 0, .int .i64 0, .int .i64 0, .slice none 0 0, .int .i64 0, .int .i64 0] 33 (0, 0)) from (Below.heap_setCell _ _ _ _ (by simp)).trans g)
  have B4 := Lib.hid (show (w4.setCell ⟨w.heap.size + 1, 3, none⟩ (.int .i64 x3)).heap[w.heap.size + 1]? = some (.cells #[.int .i64 x0, .int .i64 x1, .string ⟨x2.toArray⟩, .int .i64 x3, .int .i64 0, .int .i64 0, .slice none 0 0, .int .i64 0, .int .i64 0] 33 (0, 0)) from Joins.block_setCell b _)
  have D4 := Lib.hid (rf_setNew d HN1.out 3 (.int .i64 x3))
  have P4 := Lib.hid ((P3.out.trans kp).setNew (Nat.le_succ _) 3 (.int .i64 x3))
  clear g b d kp G3 B3 D3 P3 K3 r0 r1 r2 r4 r5 r6 r7 r8
  go_wp2_with fail
  clear f r3
  refine (K4.out _ D4.out).mono ?_
  rintro e w5 ⟨rfl, d, kp⟩
  have g := kp.heap G4.out HN0.out.symm
  have b := kp.heap B4.out HN1.out.symm
  have f := Joins.unfrozen_of_block b 4
  obtain ⟨r0, r1, r2, r3, r4, r5, r6, r7, r8⟩ := nine_any b
  have G5 := Lib.hid (show (w5.setCell ⟨w.heap.size + 1, 4, none⟩ (.int .i64 x4)).heap[w.heap.size]? = some (.cells #[.int .i64 0, .int .i64 0, .string ⟨#[]⟩, .int .i64 0, .int .i64 0, .int .i64 0, .slice none 0 0, .int .i64 0, .int .i64 0] 33 (0, 0)) from (Below.heap_setCell _ _ _ _ (by simp)).trans g)
  have B5 := Lib.hid (show (w5.setCell ⟨w.heap.size + 1, 4, none⟩ (.int .i64 x4)).heap[w.heap.size + 1]? = some (.cells #[.int .i64 x0, .int .i64 x1, .string ⟨x2.toArray⟩, .int .i64 x3, .int .i64 x4, .int .i64 0, .slice none 0 0, .int .i64 0, .int .i64 0] 33 (0, 0)) from Joins.block_setCell b _)
  have D5 := Lib.hid (rf_setNew d HN1.out 4 (.int .i64 x4))
  have P5 := Lib.hid ((P4.out.trans kp).setNew (Nat.le_succ _) 4 (.int .i64 x4))
  clear g b d kp G4 B4 D4 P4 K4 r0 r1 r2 r3 r5 r6 r7 r8
  go_wp2_with fail
  clear f r4
  refine (K5.out _ D5.out).mono ?_
  rintro e w6 ⟨rfl, d, kp⟩
  have g := kp.heap G5.out HN0.out.symm
  have b := kp.heap B5.out HN1.out.symm
  have f := Joins.unfrozen_of_block b 5
  obtain ⟨r0, r1, r2, r3, r4, r5, r6, r7, r8⟩ := nine_any b
  have G6 := Lib.hid (show (w6.setCell ⟨w.heap.size + 1, 5, none⟩ (.int .i64 x5)).heap[w.heap.size]? = some (.cells #[.int .i64 0, .int .i64 0, .string ⟨#[]⟩, .int .i64 0, .int .i64 0, .int .i64 0, .slice none 0 0, .int .i64 0, .int .i64 0] 33 (0, 0)) from (Below.heap_setCell _ _ _ _ (by simp)).trans g)
  have B6 := Lib.hid (show (w6.setCell ⟨w.heap.size + 1, 5, none⟩ (.int .i64 x5)).heap[w.heap.size + 1]? = some (.cells #[.int .i64 x0, .int .i64 x1, .string ⟨x2.toArray⟩, .int .i64 x3, .int .i64 x4, .int .i64 x5, .slice none 0 0, .int .i64 0, .int .i64 0] 33 (0, 0)) from Joins.block_setCell b _)
  have D6 := Lib.hid (rf_setNew d HN1.out 5 (.int .i64 x5))
  have P6 := Lib.hid ((P5.out.trans kp).setNew (Nat.le_succ _) 5 (.int .i64 x5))
  clear g b d kp G5 B5 D5 P5 K5 r0 r1 r2 r3 r4 r6 r7 r8
  go_wp2_with fail
  clear f r5
  refine (K6.out _ D6.out).mono ?_
  rintro e w7 ⟨rfl, d, kp⟩
  have G7 := Lib.hid (kp.heap G6.out HN0.out.symm)
  have B7 := Lib.hid (kp.heap B6.out HN1.out.symm)
  have D7 := Lib.hid d
  have P7 := Lib.hid (P6.out.trans kp)
  clear d kp G6 B6 D6 P6 K6
  go_wp2_with fail
  obtain ⟨i0, hi, hz0, hz1, hz2⟩ := info_parts numInfo
  go_loopw [5] (fun i wr => ∃ (k : Nat) (va : Option Addr) (vc : Nat) (L : List Int) (σ : Int × Int), k ≤ N ∧ i = .int .i64 k ∧ Hid (L.length = k) ∧ Hid (rfN (rfI s.data.toList) N σ7 = (L ++ (rfN (rfI s.data.toList) (N - k) σ).1, (rfN (rfI s.data.toList) (N - k) σ).2)) ∧ Hid (wr.heap[w.heap.size]? = some (.cells #[.int .i64 0, .int .i64 0, .string ⟨#[]⟩, .int .i64 0, .int .i64 0, .int .i64 0, .slice none 0 0, .int .i64 0, .int .i64 0] 33 (0, 0))) ∧ Hid (wr.heap[w.heap.size + 1]? = some (.cells #[.int .i64 x0, .int .i64 x1, .string ⟨x2.toArray⟩, .int .i64 x3, .int .i64 x4, .int .i64 x5, .slice va k vc, .int .i64 0, .int .i64 0] 33 (0, 0))) ∧ Hid (RfAt wr R s σ) ∧ Hid (Keeps R w wr) ∧ Hid (wr.ownsRow (w.heap.size + 2) 3 1 (.slice va k vc) k (L.map (Value.int .i64)))) (fun i _ => N - (intOf i).toNat)
  case atStart => exact ⟨0, none, 0, [], σ7, Nat.zero_le _, rfl, Lib.hid rfl, Lib.hid rfl, G7, B7, D7, P7, Lib.hid (World.ownsRow_nil _ _ _ _)⟩
  case round =>
    obtain ⟨k, va, vc, L, σ, hk, rfl, HL, HST0, G, B, D, hkp, OW⟩ := hrel
    obtain ⟨d0, d1, d2⟩ := rf_cells D.out
    clear d0 d1
    by_cases hgo : k < N ∧ σ.2 = 0
    · obtain ⟨hlt, he⟩ := hgo
      have HST := Lib.hid (rfN_step hlt he HST0.out)
      have KI := Lib.hid (rfnum_any R s σ wr.drew HS.out D.out)
      have q1 : (k : Int) < N := by omega
      have q2 : (σ.2 == 0) = true := by simp [he]
      clear he
      generalize rfI s.data.toList σ = q at *
      obtain ⟨z, σz⟩ := q
      simp only at KI HST
      go_wp2_with fail
      clear q2 d2
      refine wp_region_held_drew (S := fun w' => 0 ≤ w'.heap.size) (by kernel_rfl) (Nat.zero_le _) (fun h0 => ?_)
      refine wpAnyH_take (i := 0) (v := ?_) rfl (by kernel_rfl) (by kernel_rfl) (by kernel_rfl) (fun _ _ _ h => h) (Or.inl ⟨by rfl, ?_⟩) h0 ?_
      rotate_left
      · (intro w hSw; (try dsimp only at hSw); go_simp); all_goals (with_reducible rfl)
      try simp only [List.getElem_toArray, List.getElem_cons_succ, List.getElem_cons_zero, Act.put, List.setIfInBounds_toArray, List.set_cons_zero, List.set_cons_succ]
      refine wpAnyH_take (i := 1) (v := ?_) rfl (by kernel_rfl) (by kernel_rfl) (by kernel_rfl) (fun _ _ _ h => h) (Or.inl ⟨by rfl, ?_⟩) h0 ?_
      rotate_left
      · (intro w hSw; (try dsimp only at hSw); go_simp); all_goals (with_reducible rfl)
      try simp only [List.getElem_toArray, List.getElem_cons_succ, List.getElem_cons_zero, Act.put, List.setIfInBounds_toArray, List.set_cons_zero, List.set_cons_succ]
      refine wpAnyH_take (i := 3) (v := ?_) rfl (by kernel_rfl) (by kernel_rfl) (by kernel_rfl) (fun _ _ _ h => h) (Or.inl ⟨by rfl, ?_⟩) h0 ?_
      rotate_left
      · (intro w hSw; (try dsimp only at hSw); go_simp); all_goals (with_reducible rfl)
      try simp only [List.getElem_toArray, List.getElem_cons_succ, List.getElem_cons_zero, Act.put, List.setIfInBounds_toArray, List.set_cons_zero, List.set_cons_succ]
      refine wpAnyH_ready (rs := [2, 4]) (by kernel_rfl) (by simp) ?_
      refine AllReadyH.cons rfl (fun K hK => ?_) (AllReadyH.cons rfl (fun K hK => ?_) AllReadyH.nil)
      · obtain ⟨r0, r1, r2, r3, r4, r5, r6, r7, r8⟩ := nine_any (show wr.drew.heap[w.heap.size + 1]? = _ from B.out)
        clear r0 r1 r2 r3 r4 r5 r7 r8
        go_simp
        clear r6
        refine hK.out _ _ (Nat.zero_le _) (fun h1 => ?_)
        clear hK K
        try simp only [List.getElem_toArray, List.getElem_cons_succ, List.getElem_cons_zero, Act.put, List.setIfInBounds_toArray, List.set_cons_zero, List.set_cons_succ]
        refine wpAnyH_ready (rs := [4]) (by kernel_rfl) (by simp) ?_
        refine AllReadyH.cons rfl (fun K hK => ?_) AllReadyH.nil
        go_simp
        go_at_call 40
        refine KI.out.mono ?_
        rintro e w8 ⟨rfl, d, kp⟩
        go_wp2_with fail
        have G8 := Lib.hid (kp.heap (show wr.drew.heap[w.heap.size]? = _ from G.out) HN0.out.symm)
        have B8 := Lib.hid (kp.heap (show wr.drew.heap[w.heap.size + 1]? = _ from B.out) HN1.out.symm)
        have D8 := Lib.hid d
        have P8 := Lib.hid ((hkp.out.drew).trans kp)
        have OW8 := Lib.hid (own_keeps (show wr.drew.ownsRow (w.heap.size + 2) 3 1 (.slice va k vc) k (L.map (Value.int .i64)) from OW.out) (by omega) kp)
        have S9 : w.heap.size + 1 < w8.heap.size := (Array.getElem?_eq_some_iff.1 B8.out).1
        clear d kp
        refine hK.out _ _ (Nat.zero_le _) (fun h2 => ?_)
        clear hK K
        try simp only [List.getElem_toArray, List.getElem_cons_succ, List.getElem_cons_zero, Act.put, List.setIfInBounds_toArray, List.set_cons_zero, List.set_cons_succ]
        refine wpAnyH_ready (rs := [5]) (by kernel_rfl) (by simp) ?_
        refine AllReadyH.cons rfl (fun K hK => ?_) AllReadyH.nil
        go_simp
        refine hK.out _ _ (Nat.zero_le _) (fun h3 => ?_)
        clear hK K
        try simp only [List.getElem_toArray, List.getElem_cons_succ, List.getElem_cons_zero, Act.put, List.setIfInBounds_toArray, List.set_cons_zero, List.set_cons_succ]
        refine wpAnyH_ready (rs := [6]) (by kernel_rfl) (by simp) ?_
        refine AllReadyH.cons rfl (fun K hK => ?_) AllReadyH.nil
        obtain ⟨v', w9, hr, ho, hg, -, -⟩ := run_append_own_at (P := Tryz.prog) (w8.alloc (.cells #[.int .i64 z] 3)) (w.heap.size + 2) 29 29 3 i0 (.int .i64 0) 1 8 Tryz.underlying29 hi hz0 hz1 hz2 rfl (by decide) (.slice va k vc) k _ (OW8.out.alloc _) ⟨w8.heap.size, 0, none⟩ 1 1 [.int .i64 z] rfl (cell_one_new _ _ _) (by simp [Value.oneCell']) (by unfold maxLen; omega) (by omega) (by simp; omega)
        obtain ⟨a', c', rfl⟩ := own_slice ho
        have hob : ∀ q, Value.ownBlock (.slice va k vc) = some q → w.heap.size + 2 ≤ q := fun q hq => (OW8.out.lt _ hq).1
        have G9 := Lib.hid ((hg.block w.heap.size (by simp; omega) (fun e => by have := hob _ e.symm; omega)).trans ((Below.heap_alloc _ _ _ (by omega)).trans G8.out))
        have B9 := Lib.hid ((hg.block (w.heap.size + 1) (by simp; omega) (fun e => by have := hob _ e.symm; omega)).trans ((Below.heap_alloc _ _ _ (by omega)).trans B8.out))
        have D9 := Lib.hid (show RfAt w9 R s σz from (hg.block R (by simp; omega) (fun e => by have := hob _ e.symm; omega)).trans ((Below.heap_alloc _ _ _ (by omega)).trans D8.out))
        have P9 := Lib.hid ((P8.out.alloc (.cells #[.int .i64 z] 3)).grown hg (fun q hq => by have := hob q hq; omega))
        have O9 := Lib.hid ho
        have HRN2 := Lib.hid hr
        clear ho hg hob hr
        rw [if_pos (by rfl)]
        refine Lib.wp_append_run _ (.tmp 42) (.tmp 45) 29 29 rfl _ _ rfl rfl _ _ HRN2.out ?_
        refine hK.out _ _ (Nat.zero_le _) (fun h3 => ?_)
        clear hK K
        try simp only [List.getElem_toArray, List.getElem_cons_succ, List.getElem_cons_zero, Act.put, List.setIfInBounds_toArray, List.set_cons_zero, List.set_cons_succ]
        refine wpAnyH_take (i := 7) (v := ?_) rfl (by kernel_rfl) (by kernel_rfl) (by kernel_rfl) (fun _ _ _ h => h) (Or.inl ⟨by rfl, ?_⟩) h3 ?_
        rotate_left
        · (intro w hSw; (try dsimp only at hSw); go_simp); all_goals (with_reducible rfl)
        try simp only [List.getElem_toArray, List.getElem_cons_succ, List.getElem_cons_zero, Act.put, List.setIfInBounds_toArray, List.set_cons_zero, List.set_cons_succ]
        refine wpAnyH_take (i := 8) (v := ?_) rfl (by kernel_rfl) (by kernel_rfl) (by kernel_rfl) (fun _ _ _ h => h) (Or.inl ⟨by rfl, ?_⟩) h3 ?_
        rotate_left
        · (intro w hSw; (try dsimp only at hSw); go_simp); all_goals (with_reducible rfl)
        try simp only [List.getElem_toArray, List.getElem_cons_succ, List.getElem_cons_zero, Act.put, List.setIfInBounds_toArray, List.set_cons_zero, List.set_cons_succ]
        refine wpAnyH_ready (rs := [9]) (by kernel_rfl) (by simp) ?_
        refine AllReadyH.cons rfl (fun K hK => ?_) AllReadyH.nil
        obtain ⟨r0, r1, r2, r3, r4, r5, r6, r7, r8⟩ := nine_any B9.out
        have f6 := Joins.unfrozen_of_block B9.out 6
        clear r0 r1 r2 r3 r4 r5 r7 r8
        go_simp
        clear r6 f6
        refine hK.out _ _ (Nat.zero_le _) (fun h4 => ?_)
        clear hK K
        try simp only [List.getElem_toArray, List.getElem_cons_succ, List.getElem_cons_zero, Act.put, List.setIfInBounds_toArray, List.set_cons_zero, List.set_cons_succ]
        refine wpAnyH_done (by kernel_rfl) ?_ _
        clear h0 h1 h2 h3 h4
        go_wp2
        go_roundw
        case rel => exact ⟨k + 1, a', c', L ++ [z], σz, by omega, by go_num, Lib.hid (by rw [List.length_append, HL.out]; rfl), HST, Lib.hid ((Below.heap_setCell _ _ _ _ (by simp)).trans G9.out), Lib.hid (Joins.block_setCell B9.out _), Lib.hid (rf_setNew D9.out HN1.out 6 _), Lib.hid (P9.out.setNew (Nat.le_succ _) 6 _), Lib.hid (by rw [List.map_append]; exact ownsRow_setCell_below (a := ⟨w.heap.size + 1, 6, none⟩) O9.out (by simp) _)⟩
        case measure => simp [intOf]; omega
      · go_simp
        go_at_call 40
        refine KI.out.mono ?_
        rintro e w8 ⟨rfl, d, kp⟩
        go_wp2_with fail
        have G8 := Lib.hid (kp.heap (show wr.drew.heap[w.heap.size]? = _ from G.out) HN0.out.symm)
        have B8 := Lib.hid (kp.heap (show wr.drew.heap[w.heap.size + 1]? = _ from B.out) HN1.out.symm)
        have D8 := Lib.hid d
        have P8 := Lib.hid ((hkp.out.drew).trans kp)
        have OW8 := Lib.hid (own_keeps (show wr.drew.ownsRow (w.heap.size + 2) 3 1 (.slice va k vc) k (L.map (Value.int .i64)) from OW.out) (by omega) kp)
        have S9 : w.heap.size + 1 < w8.heap.size := (Array.getElem?_eq_some_iff.1 B8.out).1
        clear d kp
        refine hK.out _ _ (Nat.zero_le _) (fun h1 => ?_)
        clear hK K
        try simp only [List.getElem_toArray, List.getElem_cons_succ, List.getElem_cons_zero, Act.put, List.setIfInBounds_toArray, List.set_cons_zero, List.set_cons_succ]
        refine wpAnyH_ready (rs := [2, 5]) (by kernel_rfl) (by simp) ?_
        refine AllReadyH.cons rfl (fun K hK => ?_) (AllReadyH.cons rfl (fun K hK => ?_) AllReadyH.nil)
        · obtain ⟨r0, r1, r2, r3, r4, r5, r6, r7, r8⟩ := nine_any B8.out
          clear r0 r1 r2 r3 r4 r5 r7 r8
          go_simp
          clear r6
          refine hK.out _ _ (Nat.zero_le _) (fun h2 => ?_)
          clear hK K
          try simp only [List.getElem_toArray, List.getElem_cons_succ, List.getElem_cons_zero, Act.put, List.setIfInBounds_toArray, List.set_cons_zero, List.set_cons_succ]
          refine wpAnyH_ready (rs := [5]) (by kernel_rfl) (by simp) ?_
          refine AllReadyH.cons rfl (fun K hK => ?_) AllReadyH.nil
          go_simp
          refine hK.out _ _ (Nat.zero_le _) (fun h3 => ?_)
          clear hK K
          try simp only [List.getElem_toArray, List.getElem_cons_succ, List.getElem_cons_zero, Act.put, List.setIfInBounds_toArray, List.set_cons_zero, List.set_cons_succ]
          refine wpAnyH_ready (rs := [6]) (by kernel_rfl) (by simp) ?_
          refine AllReadyH.cons rfl (fun K hK => ?_) AllReadyH.nil
          obtain ⟨v', w9, hr, ho, hg, -, -⟩ := run_append_own_at (P := Tryz.prog) (w8.alloc (.cells #[.int .i64 z] 3)) (w.heap.size + 2) 29 29 3 i0 (.int .i64 0) 1 8 Tryz.underlying29 hi hz0 hz1 hz2 rfl (by decide) (.slice va k vc) k _ (OW8.out.alloc _) ⟨w8.heap.size, 0, none⟩ 1 1 [.int .i64 z] rfl (cell_one_new _ _ _) (by simp [Value.oneCell']) (by unfold maxLen; omega) (by omega) (by simp; omega)
          obtain ⟨a', c', rfl⟩ := own_slice ho
          have hob : ∀ q, Value.ownBlock (.slice va k vc) = some q → w.heap.size + 2 ≤ q := fun q hq => (OW8.out.lt _ hq).1
          have G9 := Lib.hid ((hg.block w.heap.size (by simp; omega) (fun e => by have := hob _ e.symm; omega)).trans ((Below.heap_alloc _ _ _ (by omega)).trans G8.out))
          have B9 := Lib.hid ((hg.block (w.heap.size + 1) (by simp; omega) (fun e => by have := hob _ e.symm; omega)).trans ((Below.heap_alloc _ _ _ (by omega)).trans B8.out))
          have D9 := Lib.hid (show RfAt w9 R s σz from (hg.block R (by simp; omega) (fun e => by have := hob _ e.symm; omega)).trans ((Below.heap_alloc _ _ _ (by omega)).trans D8.out))
          have P9 := Lib.hid ((P8.out.alloc (.cells #[.int .i64 z] 3)).grown hg (fun q hq => by have := hob q hq; omega))
          have O9 := Lib.hid ho
          have HRN2 := Lib.hid hr
          clear ho hg hob hr
          rw [if_pos (by rfl)]
          refine Lib.wp_append_run _ (.tmp 42) (.tmp 45) 29 29 rfl _ _ rfl rfl _ _ HRN2.out ?_
          refine hK.out _ _ (Nat.zero_le _) (fun h3 => ?_)
          clear hK K
          try simp only [List.getElem_toArray, List.getElem_cons_succ, List.getElem_cons_zero, Act.put, List.setIfInBounds_toArray, List.set_cons_zero, List.set_cons_succ]
          refine wpAnyH_take (i := 7) (v := ?_) rfl (by kernel_rfl) (by kernel_rfl) (by kernel_rfl) (fun _ _ _ h => h) (Or.inl ⟨by rfl, ?_⟩) h3 ?_
          rotate_left
          · (intro w hSw; (try dsimp only at hSw); go_simp); all_goals (with_reducible rfl)
          try simp only [List.getElem_toArray, List.getElem_cons_succ, List.getElem_cons_zero, Act.put, List.setIfInBounds_toArray, List.set_cons_zero, List.set_cons_succ]
          refine wpAnyH_take (i := 8) (v := ?_) rfl (by kernel_rfl) (by kernel_rfl) (by kernel_rfl) (fun _ _ _ h => h) (Or.inl ⟨by rfl, ?_⟩) h3 ?_
          rotate_left
          · (intro w hSw; (try dsimp only at hSw); go_simp); all_goals (with_reducible rfl)
          try simp only [List.getElem_toArray, List.getElem_cons_succ, List.getElem_cons_zero, Act.put, List.setIfInBounds_toArray, List.set_cons_zero, List.set_cons_succ]
          refine wpAnyH_ready (rs := [9]) (by kernel_rfl) (by simp) ?_
          refine AllReadyH.cons rfl (fun K hK => ?_) AllReadyH.nil
          obtain ⟨r0, r1, r2, r3, r4, r5, r6, r7, r8⟩ := nine_any B9.out
          have f6 := Joins.unfrozen_of_block B9.out 6
          clear r0 r1 r2 r3 r4 r5 r7 r8
          go_simp
          clear r6 f6
          refine hK.out _ _ (Nat.zero_le _) (fun h4 => ?_)
          clear hK K
          try simp only [List.getElem_toArray, List.getElem_cons_succ, List.getElem_cons_zero, Act.put, List.setIfInBounds_toArray, List.set_cons_zero, List.set_cons_succ]
          refine wpAnyH_done (by kernel_rfl) ?_ _
          clear h0 h1 h2 h3 h4
          go_wp2
          go_roundw
          case rel => exact ⟨k + 1, a', c', L ++ [z], σz, by omega, by go_num, Lib.hid (by rw [List.length_append, HL.out]; rfl), HST, Lib.hid ((Below.heap_setCell _ _ _ _ (by simp)).trans G9.out), Lib.hid (Joins.block_setCell B9.out _), Lib.hid (rf_setNew D9.out HN1.out 6 _), Lib.hid (P9.out.setNew (Nat.le_succ _) 6 _), Lib.hid (by rw [List.map_append]; exact ownsRow_setCell_below (a := ⟨w.heap.size + 1, 6, none⟩) O9.out (by simp) _)⟩
          case measure => simp [intOf]; omega
        · go_simp
          refine hK.out _ _ (Nat.zero_le _) (fun h2 => ?_)
          clear hK K
          try simp only [List.getElem_toArray, List.getElem_cons_succ, List.getElem_cons_zero, Act.put, List.setIfInBounds_toArray, List.set_cons_zero, List.set_cons_succ]
          refine wpAnyH_ready (rs := [2]) (by kernel_rfl) (by simp) ?_
          refine AllReadyH.cons rfl (fun K hK => ?_) AllReadyH.nil
          have BA := (Below.heap_alloc w8 (.cells #[.int .i64 z] 3) (w.heap.size + 1) (by omega)).trans B8.out
          obtain ⟨r0, r1, r2, r3, r4, r5, r6, r7, r8⟩ := nine_any BA
          clear r0 r1 r2 r3 r4 r5 r7 r8
          go_simp
          clear r6
          refine hK.out _ _ (Nat.zero_le _) (fun h3 => ?_)
          clear hK K
          try simp only [List.getElem_toArray, List.getElem_cons_succ, List.getElem_cons_zero, Act.put, List.setIfInBounds_toArray, List.set_cons_zero, List.set_cons_succ]
          clear BA
          refine wpAnyH_ready (rs := [6]) (by kernel_rfl) (by simp) ?_
          refine AllReadyH.cons rfl (fun K hK => ?_) AllReadyH.nil
          obtain ⟨v', w9, hr, ho, hg, -, -⟩ := run_append_own_at (P := Tryz.prog) (w8.alloc (.cells #[.int .i64 z] 3)) (w.heap.size + 2) 29 29 3 i0 (.int .i64 0) 1 8 Tryz.underlying29 hi hz0 hz1 hz2 rfl (by decide) (.slice va k vc) k _ (OW8.out.alloc _) ⟨w8.heap.size, 0, none⟩ 1 1 [.int .i64 z] rfl (cell_one_new _ _ _) (by simp [Value.oneCell']) (by unfold maxLen; omega) (by omega) (by simp; omega)
          obtain ⟨a', c', rfl⟩ := own_slice ho
          have hob : ∀ q, Value.ownBlock (.slice va k vc) = some q → w.heap.size + 2 ≤ q := fun q hq => (OW8.out.lt _ hq).1
          have G9 := Lib.hid ((hg.block w.heap.size (by simp; omega) (fun e => by have := hob _ e.symm; omega)).trans ((Below.heap_alloc _ _ _ (by omega)).trans G8.out))
          have B9 := Lib.hid ((hg.block (w.heap.size + 1) (by simp; omega) (fun e => by have := hob _ e.symm; omega)).trans ((Below.heap_alloc _ _ _ (by omega)).trans B8.out))
          have D9 := Lib.hid (show RfAt w9 R s σz from (hg.block R (by simp; omega) (fun e => by have := hob _ e.symm; omega)).trans ((Below.heap_alloc _ _ _ (by omega)).trans D8.out))
          have P9 := Lib.hid ((P8.out.alloc (.cells #[.int .i64 z] 3)).grown hg (fun q hq => by have := hob q hq; omega))
          have O9 := Lib.hid ho
          have HRN2 := Lib.hid hr
          clear ho hg hob hr
          rw [if_pos (by rfl)]
          refine Lib.wp_append_run _ (.tmp 42) (.tmp 45) 29 29 rfl _ _ rfl rfl _ _ HRN2.out ?_
          refine hK.out _ _ (Nat.zero_le _) (fun h3 => ?_)
          clear hK K
          try simp only [List.getElem_toArray, List.getElem_cons_succ, List.getElem_cons_zero, Act.put, List.setIfInBounds_toArray, List.set_cons_zero, List.set_cons_succ]
          refine wpAnyH_take (i := 7) (v := ?_) rfl (by kernel_rfl) (by kernel_rfl) (by kernel_rfl) (fun _ _ _ h => h) (Or.inl ⟨by rfl, ?_⟩) h3 ?_
          rotate_left
          · (intro w hSw; (try dsimp only at hSw); go_simp); all_goals (with_reducible rfl)
          try simp only [List.getElem_toArray, List.getElem_cons_succ, List.getElem_cons_zero, Act.put, List.setIfInBounds_toArray, List.set_cons_zero, List.set_cons_succ]
          refine wpAnyH_take (i := 8) (v := ?_) rfl (by kernel_rfl) (by kernel_rfl) (by kernel_rfl) (fun _ _ _ h => h) (Or.inl ⟨by rfl, ?_⟩) h3 ?_
          rotate_left
          · (intro w hSw; (try dsimp only at hSw); go_simp); all_goals (with_reducible rfl)
          try simp only [List.getElem_toArray, List.getElem_cons_succ, List.getElem_cons_zero, Act.put, List.setIfInBounds_toArray, List.set_cons_zero, List.set_cons_succ]
          refine wpAnyH_ready (rs := [9]) (by kernel_rfl) (by simp) ?_
          refine AllReadyH.cons rfl (fun K hK => ?_) AllReadyH.nil
          obtain ⟨r0, r1, r2, r3, r4, r5, r6, r7, r8⟩ := nine_any B9.out
          have f6 := Joins.unfrozen_of_block B9.out 6
          clear r0 r1 r2 r3 r4 r5 r7 r8
          go_simp
          clear r6 f6
          refine hK.out _ _ (Nat.zero_le _) (fun h4 => ?_)
          clear hK K
          try simp only [List.getElem_toArray, List.getElem_cons_succ, List.getElem_cons_zero, Act.put, List.setIfInBounds_toArray, List.set_cons_zero, List.set_cons_succ]
          refine wpAnyH_done (by kernel_rfl) ?_ _
          clear h0 h1 h2 h3 h4
          go_wp2
          go_roundw
          case rel => exact ⟨k + 1, a', c', L ++ [z], σz, by omega, by go_num, Lib.hid (by rw [List.length_append, HL.out]; rfl), HST, Lib.hid ((Below.heap_setCell _ _ _ _ (by simp)).trans G9.out), Lib.hid (Joins.block_setCell B9.out _), Lib.hid (rf_setNew D9.out HN1.out 6 _), Lib.hid (P9.out.setNew (Nat.le_succ _) 6 _), Lib.hid (by rw [List.map_append]; exact ownsRow_setCell_below (a := ⟨w.heap.size + 1, 6, none⟩) O9.out (by simp) _)⟩
          case measure => simp [intOf]; omega
    · have HE := Lib.hid (rfN_end (by by_cases hlt : k < N; exact .inr (fun h => hgo ⟨hlt, h⟩); exact .inl (by omega)) HST0.out)
      have HR2 := Lib.hid (show r = (⟨x0, x1, x2, x3, x4, ⟨x5, L, (rfI s.data.toList σ).1, (rfI s.data.toList (rfI s.data.toList σ).2).1⟩⟩, (rfI s.data.toList (rfI s.data.toList σ).2).2) by have h := HR.out; rw [HE.out] at h; exact h)
      have KI := Lib.hid (rfnum_any R s σ wr HS.out D.out)
      have KJ := Lib.hid (fun W hW => rfnum_any R s (rfI s.data.toList σ).2 W HS.out hW)
      have HG := Lib.hid hgo
      clear HE HR HST0 hgo D
      generalize rfI s.data.toList σ = q at *
      obtain ⟨x7, σ8⟩ := q
      simp only at KI KJ HR2
      generalize rfI s.data.toList σ8 = q at *
      obtain ⟨x8, σ9⟩ := q
      simp only at KJ HR2
      by_cases hlt : k < N
      · have q1 : (k : Int) < N := by omega
        have q2 : (σ.2 == 0) = false := by simp; exact fun h => HG.out ⟨hlt, h⟩
        clear HG
        go_wp2_with fail
        refine KI.out.mono ?_
        rintro e w8 ⟨rfl, d, kp⟩
        clear d2 KI
        have b := kp.heap B.out HN1.out.symm
        obtain ⟨r0, r1, r2, r3, r4, r5, r6, r7, r8⟩ := nine_any b
        have f7 := Joins.unfrozen_of_block b 7
        have G8 := Lib.hid (show (w8.setCell ⟨w.heap.size + 1, 7, none⟩ (.int .i64 x7)).heap[w.heap.size]? = _ from (Below.heap_setCell _ _ _ _ (by simp)).trans (kp.heap G.out HN0.out.symm))
        have B8 := Lib.hid (show (w8.setCell ⟨w.heap.size + 1, 7, none⟩ (.int .i64 x7)).heap[w.heap.size + 1]? = some (.cells #[.int .i64 x0, .int .i64 x1, .string ⟨x2.toArray⟩, .int .i64 x3, .int .i64 x4, .int .i64 x5, .slice va k vc, .int .i64 x7, .int .i64 0] 33 (0, 0)) from Joins.block_setCell b _)
        have D8 := Lib.hid (rf_setNew d HN1.out 7 (.int .i64 x7))
        have P8 := Lib.hid ((hkp.out.trans kp).setNew (Nat.le_succ _) 7 (.int .i64 x7))
        have O8 := Lib.hid (ownsRow_setCell_below (a := ⟨w.heap.size + 1, 7, none⟩) (own_keeps OW.out (by omega) kp) (by simp) (.int .i64 x7))
        clear b d kp G B hkp OW r0 r1 r2 r3 r4 r5 r6 r8
        go_wp2_with fail
        clear r7 f7
        refine (KJ.out _ D8.out).mono ?_
        rintro e w9 ⟨rfl, d, kp⟩
        have b := kp.heap B8.out HN1.out.symm
        have g := kp.heap G8.out HN0.out.symm
        have B9 := Lib.hid (show (w9.setCell ⟨w.heap.size + 1, 8, none⟩ (.int .i64 x8)).heap[w.heap.size + 1]? = some (.cells #[.int .i64 x0, .int .i64 x1, .string ⟨x2.toArray⟩, .int .i64 x3, .int .i64 x4, .int .i64 x5, .slice va k vc, .int .i64 x7, .int .i64 x8] 33 (0, 0)) from Joins.block_setCell b _)
        have G9 := Lib.hid (show (w9.setCell ⟨w.heap.size + 1, 8, none⟩ (.int .i64 x8)).heap[w.heap.size]? = some (.cells #[.int .i64 0, .int .i64 0, .string ⟨#[]⟩, .int .i64 0, .int .i64 0, .int .i64 0, .slice none 0 0, .int .i64 0, .int .i64 0] 33 (0, 0)) from (Below.heap_setCell _ _ _ _ (by simp)).trans g)
        have D9 := Lib.hid (rf_setNew d HN1.out 8 (.int .i64 x8))
        have P9 := Lib.hid ((P8.out.trans kp).setNew (Nat.le_succ _) 8 (.int .i64 x8))
        have O9 := Lib.hid (ownsRow_setCell_below (a := ⟨w.heap.size + 1, 8, none⟩) (own_keeps O8.out (by omega) kp) (by simp) (.int .i64 x8))
        obtain ⟨-, -, -, -, -, -, -, -, r8⟩ := nine_any b
        have f8 := Joins.unfrozen_of_block b 8
        clear b g d kp B8 G8 D8 P8 O8 KJ
        obtain ⟨r0, r1, r2, r3, r4, r5, r6, r7, s8⟩ := nine_any B9.out
        obtain ⟨z0, z1, z2, z3, z4, z5, z6, z7, z8⟩ := nine_any G9.out
        have f0 := Joins.unfrozen_of_block G9.out 0
        have f1 := Joins.unfrozen_of_block G9.out 1
        have f2 := Joins.unfrozen_of_block G9.out 2
        have f3 := Joins.unfrozen_of_block G9.out 3
        have f4 := Joins.unfrozen_of_block G9.out 4
        have f5 := Joins.unfrozen_of_block G9.out 5
        have f6 := Joins.unfrozen_of_block G9.out 6
        have f7 := Joins.unfrozen_of_block G9.out 7
        have e8 := Joins.unfrozen_of_block G9.out 8
        go_wp2
        clear r0 r1 r2 r3 r4 r5 r6 r7 r8 s8 z0 z1 z2 z3 z4 z5 z6 z7 z8 f0 f1 f2 f3 f4 f5 f6 f7 f8 e8
        refine (?_ : bodyPost _ _ _ _ _ (put9V (w9.setCell ⟨w.heap.size + 1, 8, none⟩ (.int .i64 x8)) w.heap.size (.int .i64 x0) (.int .i64 x1) (.string ⟨x2.toArray⟩) (.int .i64 x3) (.int .i64 x4) (.int .i64 x5) (.slice va k vc) (.int .i64 x7) (.int .i64 x8)))
        obtain ⟨r0, r1, r2, r3, r4, r5, r6, r7, r8⟩ := nine_any (put9V_block G9.out (.int .i64 x0) (.int .i64 x1) (.string ⟨x2.toArray⟩) (.int .i64 x3) (.int .i64 x4) (.int .i64 x5) (.slice va k vc) (.int .i64 x7) (.int .i64 x8))
        obtain ⟨rb, rs⟩ := r
        have HB := Lib.hid (Prod.mk.inj HR2.out)
        refine bodyPost_ret (v := .agg #[.int .i64 x0, .int .i64 x1, .string ⟨x2.toArray⟩, .int .i64 x3, .int .i64 x4, .int .i64 x5, .slice va k vc, .int .i64 x7, .int .i64 x8]) (by simp [results, Tryz.results17, go_sem, r0, r1, r2, r3, r4, r5, r6, r7, r8]) rfl ⟨va, vc, ?_, ?_, ?_, put9V_keeps P9.out (Nat.le_refl _) _ _ _ _ _ _ _ _ _⟩
        · simp only [HB.out.1, blkV, HL.out]
        · simp only [HB.out.1, HL.out]; exact own_mono (put9V_own O9.out (by omega) _ _ _ _ _ _ _ _ _) (by omega)
        · simp only [HB.out.2]; exact (put9V_other HN0.out _ _ _ _ _ _ _ _ _).trans D9.out
      · have q1 : ¬ (k : Int) < N := by omega
        clear HG
        go_wp2_with fail
        refine KI.out.mono ?_
        rintro e w8 ⟨rfl, d, kp⟩
        clear d2 KI
        have b := kp.heap B.out HN1.out.symm
        obtain ⟨r0, r1, r2, r3, r4, r5, r6, r7, r8⟩ := nine_any b
        have f7 := Joins.unfrozen_of_block b 7
        have G8 := Lib.hid (show (w8.setCell ⟨w.heap.size + 1, 7, none⟩ (.int .i64 x7)).heap[w.heap.size]? = _ from (Below.heap_setCell _ _ _ _ (by simp)).trans (kp.heap G.out HN0.out.symm))
        have B8 := Lib.hid (show (w8.setCell ⟨w.heap.size + 1, 7, none⟩ (.int .i64 x7)).heap[w.heap.size + 1]? = some (.cells #[.int .i64 x0, .int .i64 x1, .string ⟨x2.toArray⟩, .int .i64 x3, .int .i64 x4, .int .i64 x5, .slice va k vc, .int .i64 x7, .int .i64 0] 33 (0, 0)) from Joins.block_setCell b _)
        have D8 := Lib.hid (rf_setNew d HN1.out 7 (.int .i64 x7))
        have P8 := Lib.hid ((hkp.out.trans kp).setNew (Nat.le_succ _) 7 (.int .i64 x7))
        have O8 := Lib.hid (ownsRow_setCell_below (a := ⟨w.heap.size + 1, 7, none⟩) (own_keeps OW.out (by omega) kp) (by simp) (.int .i64 x7))
        clear b d kp G B hkp OW r0 r1 r2 r3 r4 r5 r6 r8
        go_wp2_with fail
        clear r7 f7
        refine (KJ.out _ D8.out).mono ?_
        rintro e w9 ⟨rfl, d, kp⟩
        have b := kp.heap B8.out HN1.out.symm
        have g := kp.heap G8.out HN0.out.symm
        have B9 := Lib.hid (show (w9.setCell ⟨w.heap.size + 1, 8, none⟩ (.int .i64 x8)).heap[w.heap.size + 1]? = some (.cells #[.int .i64 x0, .int .i64 x1, .string ⟨x2.toArray⟩, .int .i64 x3, .int .i64 x4, .int .i64 x5, .slice va k vc, .int .i64 x7, .int .i64 x8] 33 (0, 0)) from Joins.block_setCell b _)
        have G9 := Lib.hid (show (w9.setCell ⟨w.heap.size + 1, 8, none⟩ (.int .i64 x8)).heap[w.heap.size]? = some (.cells #[.int .i64 0, .int .i64 0, .string ⟨#[]⟩, .int .i64 0, .int .i64 0, .int .i64 0, .slice none 0 0, .int .i64 0, .int .i64 0] 33 (0, 0)) from (Below.heap_setCell _ _ _ _ (by simp)).trans g)
        have D9 := Lib.hid (rf_setNew d HN1.out 8 (.int .i64 x8))
        have P9 := Lib.hid ((P8.out.trans kp).setNew (Nat.le_succ _) 8 (.int .i64 x8))
        have O9 := Lib.hid (ownsRow_setCell_below (a := ⟨w.heap.size + 1, 8, none⟩) (own_keeps O8.out (by omega) kp) (by simp) (.int .i64 x8))
        obtain ⟨-, -, -, -, -, -, -, -, r8⟩ := nine_any b
        have f8 := Joins.unfrozen_of_block b 8
        clear b g d kp B8 G8 D8 P8 O8 KJ
        obtain ⟨r0, r1, r2, r3, r4, r5, r6, r7, s8⟩ := nine_any B9.out
        obtain ⟨z0, z1, z2, z3, z4, z5, z6, z7, z8⟩ := nine_any G9.out
        have f0 := Joins.unfrozen_of_block G9.out 0
        have f1 := Joins.unfrozen_of_block G9.out 1
        have f2 := Joins.unfrozen_of_block G9.out 2
        have f3 := Joins.unfrozen_of_block G9.out 3
        have f4 := Joins.unfrozen_of_block G9.out 4
        have f5 := Joins.unfrozen_of_block G9.out 5
        have f6 := Joins.unfrozen_of_block G9.out 6
        have f7 := Joins.unfrozen_of_block G9.out 7
        have e8 := Joins.unfrozen_of_block G9.out 8
        go_wp2
        clear r0 r1 r2 r3 r4 r5 r6 r7 r8 s8 z0 z1 z2 z3 z4 z5 z6 z7 z8 f0 f1 f2 f3 f4 f5 f6 f7 f8 e8
        refine (?_ : bodyPost _ _ _ _ _ (put9V (w9.setCell ⟨w.heap.size + 1, 8, none⟩ (.int .i64 x8)) w.heap.size (.int .i64 x0) (.int .i64 x1) (.string ⟨x2.toArray⟩) (.int .i64 x3) (.int .i64 x4) (.int .i64 x5) (.slice va k vc) (.int .i64 x7) (.int .i64 x8)))
        obtain ⟨r0, r1, r2, r3, r4, r5, r6, r7, r8⟩ := nine_any (put9V_block G9.out (.int .i64 x0) (.int .i64 x1) (.string ⟨x2.toArray⟩) (.int .i64 x3) (.int .i64 x4) (.int .i64 x5) (.slice va k vc) (.int .i64 x7) (.int .i64 x8))
        obtain ⟨rb, rs⟩ := r
        have HB := Lib.hid (Prod.mk.inj HR2.out)
        refine bodyPost_ret (v := .agg #[.int .i64 x0, .int .i64 x1, .string ⟨x2.toArray⟩, .int .i64 x3, .int .i64 x4, .int .i64 x5, .slice va k vc, .int .i64 x7, .int .i64 x8]) (by simp [results, Tryz.results17, go_sem, r0, r1, r2, r3, r4, r5, r6, r7, r8]) rfl ⟨va, vc, ?_, ?_, ?_, put9V_keeps P9.out (Nat.le_refl _) _ _ _ _ _ _ _ _ _⟩
        · simp only [HB.out.1, blkV, HL.out]
        · simp only [HB.out.1, HL.out]; exact own_mono (put9V_own O9.out (by omega) _ _ _ _ _ _ _ _ _) (by omega)
        · simp only [HB.out.2]; exact (put9V_other HN0.out _ _ _ _ _ _ _ _ _).trans D9.out
end Go.Proofs.YtdhioalfgogcdaaGreatDoor
