import Derived.Test.YtelipjjjlgnjoaaGreatDoorMgJ
import Derived.Test.YtelipjjjlgnjoaaGreatDoorMgO
namespace Go.Proofs.YtelipjjjlgnjoaaGreatDoor
open Go.RowKit Go.MapKept Go.Shelf
attribute [local go_sem] Oper.semAt_some
set_option maxRecDepth 100000
set_option linter.unusedSimpArgs false
set_option linter.unusedVariables false
/-- W is V but for the blocks from lo on and below hi, and for new ones. -/
structure Btw (lo hi : Nat) (V W : World) : Prop where
  os : W.os = V.os
  tape : W.tape = V.tape
  output : W.output = V.output
  size : V.heap.size ≤ W.heap.size
  block : ∀ k, k < V.heap.size → (k < lo ∨ hi ≤ k) → W.heap[k]? = V.heap[k]?
theorem Btw.refl (lo hi : Nat) (V : World) : Btw lo hi V V := ⟨rfl, rfl, rfl, Nat.le_refl _, fun _ _ _ => rfl⟩
theorem Btw.set {lo hi : Nat} {V W : World} (h : Btw lo hi V W) {a : Addr} (h1 : lo ≤ a.block) (h2 : a.block < hi) (v : Value) : Btw lo hi V (W.setCell a v) :=
  ⟨h.os, h.tape, h.output, Nat.le_trans h.size (KeepsWalks.setCell W a v).size, fun k hk ho => (Below.heap_setCell _ _ _ k (by omega)).trans (h.block k hk ho)⟩
theorem Btw.below {w V W : World} {lo hi : Nat} (h : Btw lo hi V W) (hw : Below w.heap.size w V) (hl : w.heap.size ≤ lo) : Below w.heap.size w W :=
  ⟨h.os.trans hw.os, h.tape.trans hw.tape, h.output.trans hw.output, Nat.le_trans hw.size h.size, fun k hk => (h.block k (Nat.lt_of_lt_of_le hk hw.size) (.inl (by omega))).trans (hw.block k hk)⟩
theorem Btw.own {lo hi : Nat} {V W : World} (h : Btw lo hi V W) {base : Nat} {e : TypeId} {size : Nat} {v : Value} {n : Nat} {xs : List Value} (ho : V.ownsRow base e size v n xs) (hq : ∀ q, v.ownBlock = some q → q < lo ∨ hi ≤ q) : W.ownsRow base e size v n xs := by
  refine ⟨ho.1, ho.2.imp id (fun ⟨g, cap, cur, h1, h2, h3, h4⟩ => ⟨g, cap, cur, h1, h2, ?_, h4⟩)⟩
  exact (h.block g (Array.getElem?_eq_some_iff.1 h3).1 (hq g (by rw [h1]; rfl))).trans h3
theorem Btw.be {lo hi : Nat} {V W : World} (h : Btw lo hi V W) {base : Nat} {e : BE} (ho : BeIn base V e) (hq : ∀ q, (Value.slice e.2.1 e.2.2.1 e.2.2.2).ownBlock = some q → q < lo ∨ hi ≤ q) : BeIn base W e := ⟨ho.1, h.own ho.2 hq⟩
/-- A new list: its row and its entries own what lies from base on. -/
def NewL (base : Nat) (W : World) (a : Option Addr) (c : Nat) (rs : List BE) : Prop := W.ownsRow base 39 9 (.slice a rs.length c) rs.length (rs.flatMap elB) ∧ ∀ e ∈ rs, BeIn base W e
theorem NewL.blks {base : Nat} {W : World} {a : Option Addr} {c : Nat} {rs : List BE} (h : NewL base W a c rs) : IsBlks W a rs.length c rs := blks_of_own h.1 (fun e he => (h.2 e he).ok)
theorem NewL.over {base : Nat} {W W' : World} {a : Option Addr} {c : Nat} {rs : List BE} (h : NewL base W a c rs) (hb : Below W.heap.size W W') : NewL base W' a c rs := ⟨own_over h.1 hb, fun e he => ⟨(h.2 e he).1, own_over (h.2 e he).2 hb⟩⟩
/-- It lies below lo: what is written from lo on does not touch it. -/
theorem NewL.low {base lo hi : Nat} {V0 V W : World} {a : Option Addr} {c : Nat} {rs : List BE} (h0 : NewL base V0 a c rs) (h : NewL base V a c rs) (hl : V0.heap.size ≤ lo) (hb : Btw lo hi V W) : NewL base W a c rs :=
  ⟨hb.own h.1 (fun q hq => .inl (Nat.lt_of_lt_of_le (h0.1.lt q hq).2 hl)), fun e he => hb.be (h.2 e he) (fun q hq => .inl (Nat.lt_of_lt_of_le ((h0.2 e he).2.lt q hq).2 hl))⟩
theorem NewL.high {base lo hi : Nat} {V W : World} {a : Option Addr} {c : Nat} {rs : List BE} (h : NewL base V a c rs) (hh : hi ≤ base) (hb : Btw lo hi V W) : NewL base W a c rs :=
  ⟨hb.own h.1 (fun q hq => .inr (Nat.le_trans hh (h.1.lt q hq).1)), fun e he => hb.be (h.2 e he) (fun q hq => .inr (Nat.le_trans hh ((h.2 e he).2.lt q hq).1))⟩

theorem Btw.trans {lo hi : Nat} {V W X : World} (h : Btw lo hi V W) (k : Btw lo hi W X) : Btw lo hi V X :=
  ⟨k.os.trans h.os, k.tape.trans h.tape, k.output.trans h.output, Nat.le_trans h.size k.size, fun i hi' ho => (k.block i (Nat.lt_of_lt_of_le hi' h.size) ho).trans (h.block i hi' ho)⟩
/-- The slice of a block's affected list. -/
def slB (e : BE) : Value := .slice e.2.1 e.2.2.1 e.2.2.2
def IntRow (lo : Nat) (W : World) (e : BE) : Prop := ∃ zs, W.ownsRow lo 3 1 (slB e) e.2.2.1 zs
def RowAt (lo : Nat) (W : World) (a : Option Addr) (c : Nat) (rs : List BE) (k : Nat) : Prop :=
  ∃ xs, W.ownsRow lo 39 9 (.slice a rs.length c) rs.length xs ∧ ∀ i e, k ≤ i → rs[i]? = some e → xs[i * 9 + 6]? = some (slB e)
structure OI (lo hi : Nat) (V : World) (a : Option Addr) (c : Nat) (rs : List BE) (W : World) (k : Nat) : Prop where
  btw : Btw lo hi V W
  row : RowAt lo W a c rs k
  ints : ∀ e ∈ rs, IntRow lo W e
  top : ∀ q, (Value.slice a rs.length c).ownBlock = some q → lo ≤ q ∧ q < hi
  tops : ∀ e ∈ rs, ∀ q, (slB e).ownBlock = some q → lo ≤ q ∧ q < hi
theorem elB6 (e : BE) : (elB e)[6]? = some (slB e) := rfl
theorem flat_six {rs : List BE} {i : Nat} {e : BE} (h : rs[i]? = some e) : (rs.flatMap elB)[i * 9 + 6]? = some (slB e) := by
  induction rs generalizing i with
  | nil => simp at h
  | cons x l ih =>
    cases i with
    | zero =>
      simp only [List.getElem?_cons_zero, Option.some.injEq] at h
      subst h
      rfl
    | succ i =>
      simp only [List.getElem?_cons_succ] at h
      have := ih h
      rw [List.flatMap_cons, List.getElem?_append_right (by simp [elB]; omega)]
      rw [← this]
      congr 1
      simp [elB]; omega
theorem OI.start {lo hi : Nat} {V0 V : World} {a : Option Addr} {c : Nat} {rs : List BE} (h0 : NewL lo V0 a c rs) (hh : V0.heap.size = hi) (hb : Below V0.heap.size V0 V) : OI lo hi V a c rs V 0 := by
  have h := h0.over hb
  refine ⟨Btw.refl _ _ _, ⟨_, h.1, fun i e _ he => flat_six he⟩, fun e he => ⟨_, (h.2 e he).2⟩, fun q hq => by have := h0.1.lt q hq; omega, fun e he q hq => by have := (h0.2 e he).2.lt q hq; omega⟩
theorem OI.noted {lo hi : Nat} {V W : World} {a : Option Addr} {c : Nat} {rs : List BE} {k : Nat} (h : OI lo hi V a c rs W k) {e : BE} (he : rs[k]? = some e) :
    ∃ g, a = some ⟨g, 0, none⟩ ∧ lo ≤ g ∧ g < hi ∧ (∀ e' ∈ rs, (slB e').ownBlock ≠ some g) ∧ W.cell? ⟨g, k * 9 + 6, none⟩ = some (slB e) ∧ ∀ j, W.frozen? ⟨g, j, none⟩ = false := by
  obtain ⟨xs, hx, h6⟩ := h.row
  have hk : k < rs.length := (List.getElem?_eq_some_iff.1 he).1
  obtain ⟨hx1, ⟨h2, h3⟩ | ⟨g, cap, cur, h2, h3, h4, h5⟩⟩ := hx
  · omega
  · have e1 : a = some ⟨g, 0, none⟩ ∧ c = cap := by simpa using h2
    obtain ⟨rfl, rfl⟩ := e1
    have hx : W.ownsRow lo 39 9 (.slice (some ⟨g, 0, none⟩) rs.length c) rs.length xs := ⟨hx1, .inr ⟨g, c, cur, h2, h3, h4, h5⟩⟩
    have ht := h.top g rfl
    refine ⟨g, rfl, ht.1, ht.2, fun e' he' q => ?_, ?_, fun j => hx.frozenAt j⟩
    · obtain ⟨zs, hz⟩ := h.ints e' he'
      obtain ⟨cur2, hc2⟩ := own_type hz q
      rw [h4] at hc2
      simp at hc2
    · rw [hx.cellAt (k * 9 + 6) (by omega)]
      exact h6 k e (Nat.le_refl _) he
theorem OI.inner {lo hi : Nat} {V W : World} {a : Option Addr} {c : Nat} {rs : List BE} {k : Nat} (h : OI lo hi V a c rs W k) {e : BE} (he : e ∈ rs) {j : Nat} (hj : j < e.2.2.1) :
    ∃ g u, e.2.1 = some ⟨g, 0, none⟩ ∧ W.cell? ⟨g, j, none⟩ = some u ∧ W.frozen? ⟨g, j, none⟩ = false ∧ ∀ v, OI lo hi V a c rs (W.setCell ⟨g, j, none⟩ v) k := by
  obtain ⟨zs, hz⟩ := h.ints e he
  have hz0 := hz
  obtain ⟨hx1, ⟨h2, h3⟩ | ⟨g, cap, cur, h2, h3, h4, h5⟩⟩ := hz
  · omega
  · have e1 : e.2.1 = some ⟨g, 0, none⟩ ∧ e.2.2.2 = cap := by simpa [slB] using h2
    have hz : W.ownsRow lo 3 1 (.slice (some ⟨g, 0, none⟩) e.2.2.1 cap) e.2.2.1 zs := by rw [← h2]; exact hz0
    have hlt : j < zs.length := by omega
    refine ⟨g, zs[j], e1.1, ?_, hz.frozenAt j, fun v => ?_⟩
    · rw [hz.cellAt j (by omega)]; simp [hlt]
    · have ht := h.tops e he g (by rw [h2]; rfl)
      refine ⟨h.btw.set (a := ⟨g, j, none⟩) ht.1 ht.2 v, ?_, ?_, h.top, h.tops⟩
      · obtain ⟨xs, hx, h6⟩ := h.row
        refine ⟨xs, ownsRow_setCell_other hx (a := ⟨g, j, none⟩) (fun q => ?_) v, h6⟩
        obtain ⟨cur2, hc2⟩ := own_type hx q
        rw [h4] at hc2
        simp at hc2
      · intro e' he'
        obtain ⟨ys, hy⟩ := h.ints e' he'
        by_cases q : (slB e').ownBlock = some g
        · have hy0 := hy
          obtain ⟨hy1, ⟨y2, y3⟩ | ⟨g', cap', cur', y2, y3, y4, y5⟩⟩ := hy
          · rw [y2] at q; cases q
          · rw [y2] at q hy0
            simp only [Value.ownBlock, Option.some.injEq] at q
            subst q
            exact ⟨_, by rw [y2]; exact (hy0.stored j v).1⟩
        · exact ⟨ys, ownsRow_setCell_other hy (a := ⟨g, j, none⟩) (fun q' => q q') v⟩
theorem OI.cellRow {lo hi : Nat} {V W : World} {a : Option Addr} {c : Nat} {rs : List BE} {k : Nat} (h : OI lo hi V a c rs W k) {g : Nat} (ha : a = some ⟨g, 0, none⟩) {j : Nat} (hj : j < rs.length * 9) : ∃ u, W.cell? ⟨g, j, none⟩ = some u := by
  obtain ⟨xs, hx, _⟩ := h.row
  rw [ha] at hx
  have hl := hx.1
  rw [hx.cellAt j hj]
  exact ⟨xs[j]'(by omega), by simp [show j < xs.length by omega]⟩
theorem OI.put {lo hi : Nat} {V W : World} {a : Option Addr} {c : Nat} {rs : List BE} {k : Nat} (h : OI lo hi V a c rs W (k + 1)) {g : Nat} (ha : a = some ⟨g, 0, none⟩) (hg : lo ≤ g ∧ g < hi) (hn : ∀ e' ∈ rs, (slB e').ownBlock ≠ some g) {t : Nat} (ht : t < 9) (v : Value) :
    OI lo hi V a c rs (W.setCell ⟨g, k * 9 + t, none⟩ v) (k + 1) := by
  refine ⟨h.btw.set (a := ⟨g, k * 9 + t, none⟩) hg.1 hg.2 v, ?_, fun e' he' => ?_, h.top, h.tops⟩
  · obtain ⟨xs, hx, h6⟩ := h.row
    rw [ha] at hx
    refine ⟨xs.set (k * 9 + t) v, by rw [ha]; exact (hx.stored (k * 9 + t) v).1, fun i e hi he => ?_⟩
    rw [List.getElem?_set_ne (by omega)]
    exact h6 i e hi he
  · obtain ⟨ys, hy⟩ := h.ints e' he'
    exact ⟨ys, ownsRow_setCell_other hy (a := ⟨g, k * 9 + t, none⟩) (fun q' => hn e' he' q') v⟩
theorem OI.next {lo hi : Nat} {V W : World} {a : Option Addr} {c : Nat} {rs : List BE} {k : Nat} (h : OI lo hi V a c rs W k) : OI lo hi V a c rs W (k + 1) := by
  obtain ⟨xs, hx, h6⟩ := h.row
  exact ⟨h.btw, ⟨xs, hx, fun i e hi he => h6 i e (by omega) he⟩, h.ints, h.top, h.tops⟩
theorem own_btw {lo hi : Nat} {V W : World} {a : Option Addr} {c : Nat} {rs : List BE} {b1 : Nat} (ho : V.ownsRow b1 39 9 (.slice a rs.length c) rs.length (rs.flatMap elB)) (hh : hi ≤ b1) (he : ∀ e ∈ rs, ∃ b2, hi ≤ b2 ∧ BeIn b2 V e) (hb : Btw lo hi V W) : IsBlks W a rs.length c rs :=
  blks_of_own (hb.own ho (fun q hq => .inr (Nat.le_trans hh (ho.lt q hq).1))) (fun e h => by
    obtain ⟨b2, h2, h3⟩ := he e h
    exact (hb.be h3 (fun q hq => .inr (Nat.le_trans h2 (h3.2.lt q hq).1))).ok)
theorem own_max {w : World} {base : Nat} {e : TypeId} {size : Nat} {v : Value} {n : Nat} {xs : List Value} (h : w.ownsRow base e size v n xs) : n ≤ 9223372036854775807 := by
  obtain ⟨_, ⟨_, h3⟩ | ⟨g, cap, cur, h2, h3, h4, h5, h6, _⟩⟩ := h
  · omega
  · unfold maxLen at h6; omega
theorem OI.lens {lo hi : Nat} {V W : World} {a : Option Addr} {c : Nat} {rs : List BE} {k : Nat} (h : OI lo hi V a c rs W k) : rs.length ≤ 9223372036854775807 ∧ ∀ e ∈ rs, e.2.2.1 ≤ 9223372036854775807 := by
  obtain ⟨xs, hx, _⟩ := h.row
  refine ⟨own_max hx, fun e he => ?_⟩
  obtain ⟨zs, hz⟩ := h.ints e he
  exact own_max hz
theorem OI.puts {lo hi : Nat} {V W : World} {a : Option Addr} {c : Nat} {rs : List BE} {k : Nat} (h : OI lo hi V a c rs W k) {g : Nat} (ha : a = some ⟨g, 0, none⟩) (hg : lo ≤ g ∧ g < hi) (hn : ∀ e' ∈ rs, (slB e').ownBlock ≠ some g) (v0 v1 v2 v3 v4 v5 v6 v7 v8 : Value) :
    OI lo hi V a c rs (((((((((W.setCell ⟨g, k * 9, none⟩ v0).setCell ⟨g, k * 9 + 1, none⟩ v1).setCell ⟨g, k * 9 + 2, none⟩ v2).setCell ⟨g, k * 9 + 3, none⟩ v3).setCell ⟨g, k * 9 + 4, none⟩ v4).setCell ⟨g, k * 9 + 5, none⟩ v5).setCell ⟨g, k * 9 + 6, none⟩ v6).setCell ⟨g, k * 9 + 7, none⟩ v7).setCell ⟨g, k * 9 + 8, none⟩ v8) (k + 1) :=
  ((((((((h.next.put ha hg hn (t := 0) (by omega) v0).put ha hg hn (t := 1) (by omega) v1).put ha hg hn (t := 2) (by omega) v2).put ha hg hn (t := 3) (by omega) v3).put ha hg hn (t := 4) (by omega) v4).put ha hg hn (t := 5) (by omega) v5).put ha hg hn (t := 6) (by omega) v6).put ha hg hn (t := 7) (by omega) v7).put ha hg hn (t := 8) (by omega) v8
theorem OI.nine {lo hi : Nat} {V W : World} {a : Option Addr} {c : Nat} {rs : List BE} {k : Nat} (h : OI lo hi V a c rs W k) {g : Nat} (ha : a = some ⟨g, 0, none⟩) (hk : k < rs.length) :
    ∃ u0 u1 u2 u3 u4 u5 u6 u7 u8, W.cell? ⟨g, k * 9, none⟩ = some u0 ∧ W.cell? ⟨g, k * 9 + 1, none⟩ = some u1 ∧ W.cell? ⟨g, k * 9 + 2, none⟩ = some u2 ∧ W.cell? ⟨g, k * 9 + 3, none⟩ = some u3 ∧ W.cell? ⟨g, k * 9 + 4, none⟩ = some u4 ∧ W.cell? ⟨g, k * 9 + 5, none⟩ = some u5 ∧ W.cell? ⟨g, k * 9 + 6, none⟩ = some u6 ∧ W.cell? ⟨g, k * 9 + 7, none⟩ = some u7 ∧ W.cell? ⟨g, k * 9 + 8, none⟩ = some u8 := by
  obtain ⟨u0, h0⟩ := h.cellRow ha (j := k * 9) (by omega)
  obtain ⟨u1, h1⟩ := h.cellRow ha (j := k * 9 + 1) (by omega)
  obtain ⟨u2, h2⟩ := h.cellRow ha (j := k * 9 + 2) (by omega)
  obtain ⟨u3, h3⟩ := h.cellRow ha (j := k * 9 + 3) (by omega)
  obtain ⟨u4, h4⟩ := h.cellRow ha (j := k * 9 + 4) (by omega)
  obtain ⟨u5, h5⟩ := h.cellRow ha (j := k * 9 + 5) (by omega)
  obtain ⟨u6, h6⟩ := h.cellRow ha (j := k * 9 + 6) (by omega)
  obtain ⟨u7, h7⟩ := h.cellRow ha (j := k * 9 + 7) (by omega)
  obtain ⟨u8, h8⟩ := h.cellRow ha (j := k * 9 + 8) (by omega)
  exact ⟨u0, u1, u2, u3, u4, u5, u6, u7, u8, h0, h1, h2, h3, h4, h5, h6, h7, h8⟩
end Go.Proofs.YtelipjjjlgnjoaaGreatDoor
