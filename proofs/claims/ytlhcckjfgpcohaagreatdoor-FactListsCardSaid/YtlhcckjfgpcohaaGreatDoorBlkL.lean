import Derived.Test.YtlhcckjfgpcohaaGreatDoorBlkV
namespace Go.Proofs.YtlhcckjfgpcohaaGreatDoor
open Go.RowKit Go.MapKept
set_option maxRecDepth 100000
set_option linter.unusedSimpArgs false
set_option linter.unusedVariables false
/-- A block, and where its list of stories lies. -/
abbrev BE : Type := Blk × Option Addr × Nat × Nat
def elB (e : BE) : List Value := [.int .i64 e.1.id, .int .i64 e.1.kd, .string ⟨e.1.tx.toArray⟩, .int .i64 e.1.st, .int .i64 e.1.rf, .int .i64 e.1.lb.u, .slice e.2.1 e.2.2.1 e.2.2.2, .int .i64 e.1.lb.ap, .int .i64 e.1.lb.d]
def BeOk (w : World) (e : BE) : Prop := LabAt w e.2.1 e.2.2.1 e.2.2.2 e.1.lb ∧ e.1.tx.length ≤ maxLen ∧ Bd e.1.id ∧ Bd e.1.kd ∧ Bd e.1.st ∧ Bd e.1.rf
theorem BeOk.over {W W' : World} {e : BE} (hb : Below W.heap.size W W') (h : BeOk W e) : BeOk W' e := ⟨h.1.over hb, h.2⟩
/-- A slice of blocks: what it reads as. -/
def IsBlks (w : World) (a : Option Addr) (n c : Nat) (es : List BE) : Prop :=
  es.length = n ∧ n ≤ c ∧ c ≤ maxLen ∧ (∀ e ∈ es, BeOk w e) ∧ (n = 0 ∨ ∃ b off, a = some ⟨b, off, none⟩ ∧ ∀ k e, es[k]? = some e → ∀ j v, (elB e)[j]? = some v → w.cell? ⟨b, off + k * 9 + j, none⟩ = some v)
theorem IsBlks.over {W W' : World} {a : Option Addr} {n c : Nat} {es : List BE} (hb : Below W.heap.size W W') (h : IsBlks W a n c es) : IsBlks W' a n c es := by
  obtain ⟨h1, h2, h3, h4, h5⟩ := h
  refine ⟨h1, h2, h3, fun e he => (h4 e he).over hb, h5.imp id ?_⟩
  rintro ⟨b, off, rfl, hc⟩
  exact ⟨b, off, rfl, fun k e he j v hv => cellOver hb (hc k e he j v hv)⟩
theorem IsBlks.take {W : World} {a : Option Addr} {n c : Nat} {es : List BE} (h : IsBlks W a n c es) {k : Nat} (hk : k ≤ n) : IsBlks W a k c (es.take k) := by
  obtain ⟨h1, h2, h3, h4, h5⟩ := h
  refine ⟨by simp; omega, by omega, h3, fun e he => h4 e (List.mem_of_mem_take he), ?_⟩
  rcases h5 with h5 | ⟨b, off, rfl, hc⟩
  · exact .inl (by omega)
  · refine .inr ⟨b, off, rfl, fun j e he => hc j e ?_⟩
    rw [List.getElem?_take] at he
    split at he
    · exact he
    · simp at he
/-- The nine cells of a block at hand. -/
structure Nine (w : World) (b o : Nat) (e : BE) : Prop where
  c0 : w.cell? ⟨b, o, none⟩ = some (.int .i64 e.1.id)
  c1 : w.cell? ⟨b, o + 1, none⟩ = some (.int .i64 e.1.kd)
  c2 : w.cell? ⟨b, o + 2, none⟩ = some (.string ⟨e.1.tx.toArray⟩)
  c3 : w.cell? ⟨b, o + 3, none⟩ = some (.int .i64 e.1.st)
  c4 : w.cell? ⟨b, o + 4, none⟩ = some (.int .i64 e.1.rf)
  c5 : w.cell? ⟨b, o + 5, none⟩ = some (.int .i64 e.1.lb.u)
  c6 : w.cell? ⟨b, o + 6, none⟩ = some (.slice e.2.1 e.2.2.1 e.2.2.2)
  c7 : w.cell? ⟨b, o + 7, none⟩ = some (.int .i64 e.1.lb.ap)
  c8 : w.cell? ⟨b, o + 8, none⟩ = some (.int .i64 e.1.lb.d)
theorem Nine.over {W W' : World} {b o : Nat} {e : BE} (hb : Below W.heap.size W W') (h : Nine W b o e) : Nine W' b o e :=
  ⟨cellOver hb h.c0, cellOver hb h.c1, cellOver hb h.c2, cellOver hb h.c3, cellOver hb h.c4, cellOver hb h.c5, cellOver hb h.c6, cellOver hb h.c7, cellOver hb h.c8⟩
theorem Nine.of_block {W : World} {g : Nat} {e : BE} {t : TypeId} {fr : Nat × Nat} (h : W.heap[g]? = some (.cells (elB e).toArray t fr)) : Nine W g 0 e :=
  ⟨by rw [Joins.cell_of_block h]; rfl, by rw [Joins.cell_of_block h]; rfl, by rw [Joins.cell_of_block h]; rfl, by rw [Joins.cell_of_block h]; rfl, by rw [Joins.cell_of_block h]; rfl, by rw [Joins.cell_of_block h]; rfl, by rw [Joins.cell_of_block h]; rfl, by rw [Joins.cell_of_block h]; rfl, by rw [Joins.cell_of_block h]; rfl⟩
/-- The k-th block of a slice. -/
theorem IsBlks.at_ {W : World} {a : Option Addr} {n c : Nat} {es : List BE} (h : IsBlks W a n c es) {k : Nat} (hk : k < n) : ∃ b off e, a = some ⟨b, off, none⟩ ∧ es[k]? = some e ∧ BeOk W e ∧ Nine W b (off + k * 9) e := by
  obtain ⟨h1, h2, h3, h4, h5⟩ := h
  obtain ⟨b, off, rfl, hc⟩ := h5.resolve_left (by omega)
  have he := List.getElem?_eq_getElem (l := es) (i := k) (by omega)
  refine ⟨b, off, es[k]'(by omega), rfl, he, h4 _ (List.getElem_mem _), ?_⟩
  generalize es[k]'(by omega) = e at he
  have f := hc k e he
  exact ⟨f 0 _ rfl, f 1 _ rfl, f 2 _ rfl, f 3 _ rfl, f 4 _ rfl, f 5 _ rfl, f 6 _ rfl, f 7 _ rfl, f 8 _ rfl⟩
def blks (es : List BE) : List Blk := es.map (·.1)
theorem bvalid_be (e : BE) (w : World) (h : BeOk w e) : Calls Tryz.prog 102 #[blkV e.1 e.2.1 e.2.2.1 e.2.2.2] w fun x w' => x = .returned (.bool (vB e.1)) ∧ Below w.heap.size w w' :=
  bvalid_any e.1 _ _ _ w h.1 h.2.1
set_option maxHeartbeats 1000000 in
theorem hasid1_any (e : BE) (id : Int) (p : Nat) (w : World) (hp : w.cell? ⟨p, 0, none⟩ = some (.int .i64 id)) :
    Calls Tryz.prog 107 #[blkV e.1 e.2.1 e.2.2.1 e.2.2.2, .pointer (some ⟨p, 0, none⟩)] w fun x w' => x = .returned (.bool (e.1.id == id)) ∧ Below w.heap.size w w' := by
  have B0 := below_alloc w (.cells #[.int .i64 e.1.id, .int .i64 e.1.kd, .string ⟨e.1.tx.toArray⟩, .int .i64 e.1.st, .int .i64 e.1.rf, .int .i64 e.1.lb.u, .slice e.2.1 e.2.2.1 e.2.2.2, .int .i64 e.1.lb.ap, .int .i64 e.1.lb.d] 49)
  have hlt := World.block_lt_of_cell? w _ hp
  simp only at hlt
  unfold blkV
  go_enter Tryz.func107, Tryz.ntmps107
  go_wp2
  go_ret
  exact ⟨rfl, B0⟩
def hasB (es : List BE) (id : Int) : Bool := es.any fun e => e.1.id == id
theorem hasB_iff (es : List BE) (id : Int) : hasB es id = true ↔ id ∈ (blks es).map Blk.id := by
  simp [hasB, blks]
theorem hasB_at {es : List BE} {id : Int} {k : Nat} {e : BE} (he : es[k]? = some e) (h : (e.1.id == id) = true) : hasB es id = true := by
  unfold hasB
  rw [List.any_eq_true]
  exact ⟨e, List.mem_of_getElem? he, h⟩
theorem hasB_no {es : List BE} {id : Int} (h : ∀ k e, k < es.length → es[k]? = some e → (e.1.id == id) = false) : hasB es id = false := by
  unfold hasB
  rw [List.any_eq_false]
  intro e he
  obtain ⟨k, hk, rfl⟩ := List.getElem_of_mem he
  simpa using h k _ hk (List.getElem?_eq_getElem hk)
set_option maxHeartbeats 2000000 in
theorem idxf_any (a : Option Addr) (n c : Nat) (es : List BE) (id : Int) (p : Nat) (w : World) (h : IsBlks w a n c es) (hp : w.cell? ⟨p, 0, none⟩ = some (.int .i64 id)) :
    Calls Tryz.prog 116 #[.slice a n c, .func (.func 107) #[] #[.pointer (some ⟨p, 0, none⟩)]] w fun x w' => ∃ r : Int, x = .returned (.int .i64 r) ∧ decide (0 ≤ r) = hasB es id ∧ Below w.heap.size w w' := by
  have hcm := h.2.2.1
  have hnc := h.2.1
  have HL := Lib.hid h.1
  have H := Lib.hid h
  have HP := Lib.hid hp
  unfold maxLen at hcm
  clear h hp
  go_enter Tryz.func116, Tryz.ntmps116
  go_wp2
  go_loopw [8, 5] (fun i _ wr => ∃ k : Nat, k ≤ n ∧ i = .int .i64 k ∧ Hid (∀ j e, j < k → es[j]? = some e → (e.1.id == id) = false) ∧ Below w.heap.size w wr) (fun i _ _ => n - (intOf i).toNat)
  case atStart => exact ⟨0, Nat.zero_le _, rfl, Lib.hid (fun j e hj => by omega), Below.refl _ _⟩
  case round =>
    obtain ⟨k, hk, rfl, hall, bw⟩ := hrel
    by_cases hlt : k < n
    · obtain ⟨b, off, e, rfl, he, hok, h9⟩ := (H.out.over bw).at_ hlt
      have K := Lib.hid (hasid1_any e id p wr (cellOver bw HP.out))
      have HE := Lib.hid he
      obtain ⟨c0, c1, c2, c3, c4, c5, c6, c7, c8⟩ := h9
      clear he hok
      have hltn : (k : Int) < n := by omega
      go_wp2_with fail
      refine K.out.mono ?_
      rintro x w1 ⟨rfl, b1⟩
      have B1 := bel2 bw b1
      clear b1 c0 c1 c2 c3 c4 c5 c6 c7 c8
      cases hb : (e.1.id == id)
      · have HB := Lib.hid hb
        clear hb
        go_wp2
        go_roundw
        case rel => exact ⟨k + 1, by omega, by go_num, Lib.hid (fun j e' hj he' => by
          by_cases ej : j = k
          · subst ej; rw [HE.out] at he'; cases he'; exact HB.out
          · exact hall.out j e' (by omega) he'), B1⟩
        case measure => simp [intOf]; omega
      · have HB := Lib.hid (hasB_at HE.out hb)
        clear hb
        go_wp2
        go_ret
        exact ⟨k, rfl, by rw [HB.out]; simp, B1⟩
    · obtain rfl : k = n := by omega
      have HB := Lib.hid (hasB_no (es := es) (id := id) (fun j e hj he => hall.out j e (by rw [← HL.out]; exact hj) he))
      go_wp2
      go_ret
      exact ⟨-1, rfl, by rw [HB.out]; decide, bw⟩
set_option maxHeartbeats 1000000 in
theorem contf_any (a : Option Addr) (n c : Nat) (es : List BE) (id : Int) (p : Nat) (w : World) (h : IsBlks w a n c es) (hp : w.cell? ⟨p, 0, none⟩ = some (.int .i64 id)) :
    Calls Tryz.prog 106 #[.slice a n c, .func (.func 107) #[] #[.pointer (some ⟨p, 0, none⟩)]] w fun x w' => x = .returned (.bool (hasB es id)) ∧ Below w.heap.size w w' := by
  have K := Lib.hid (idxf_any a n c es id p w h hp)
  clear h hp
  go_enter Tryz.func106, Tryz.ntmps106
  go_wp2_with fail
  refine K.out.mono ?_
  rintro x w1 ⟨r, rfl, hr, b1⟩
  go_wp2
  go_ret
  exact ⟨rfl, b1⟩
set_option maxHeartbeats 1000000 in
theorem hasid_any (a : Option Addr) (n c : Nat) (es : List BE) (id : Int) (w : World) (h : IsBlks w a n c es) :
    Calls Tryz.prog 103 #[.slice a n c, .int .i64 id] w fun x w' => x = .returned (.bool (hasB es id)) ∧ Below w.heap.size w w' := by
  have B0 := below_alloc w (.cells #[.int .i64 id] 3)
  have K := Lib.hid (contf_any a n c es id w.heap.size _ (h.over B0) (by rw [Joins.cell_of_block (heap_alloc_new w _)]; rfl))
  clear h
  go_enter Tryz.func103, Tryz.ntmps103
  go_wp2_with fail
  refine K.out.mono ?_
  rintro x w1 ⟨rfl, b1⟩
  go_wp2
  go_ret
  exact ⟨rfl, bel2 B0 b1⟩
end Go.Proofs.YtlhcckjfgpcohaaGreatDoor
