/- Rows of blocks and of integers that a call owns. -/
import Derived.Test.YtlhcckjfgpcohaaGreatDoorBlkL
import Derived.Maps.AppendAt
import Derived.RangeFuncBox
import Derived.Laws.AppendOwn
import Derived.Laws.AppendOwnNone
import Derived.Laws.OwnMore
namespace Go.Proofs.YtlhcckjfgpcohaaGreatDoor
open Go.RowKit Go.MapKept Go.Shelf
set_option maxRecDepth 100000
set_option linter.unusedSimpArgs false
set_option linter.unusedVariables false
theorem own_slice {w : World} {base : Nat} {e : TypeId} {size : Nat} {v : Value} {n : Nat} {xs : List Value} (h : w.ownsRow base e size v n xs) : ∃ a c, v = .slice a n c := by
  obtain ⟨h1, ⟨h2, h3⟩ | ⟨g, cap, cur, h2, _⟩⟩ := h
  · exact ⟨none, 0, by rw [h2, h3]⟩
  · exact ⟨_, _, h2⟩
theorem own_mono {w : World} {base base' : Nat} {e : TypeId} {size : Nat} {v : Value} {n : Nat} {xs : List Value} (h : w.ownsRow base e size v n xs) (hb : base' ≤ base) : w.ownsRow base' e size v n xs :=
  ⟨h.1, h.2.imp id (fun ⟨g, cap, cur, h1, h2, h3⟩ => ⟨g, cap, cur, h1, by omega, h3⟩)⟩
theorem own_over {w w' : World} {base : Nat} {e : TypeId} {size : Nat} {v : Value} {n : Nat} {xs : List Value} (h : w.ownsRow base e size v n xs) (k : Below w.heap.size w w') : w'.ownsRow base e size v n xs :=
  ⟨h.1, h.2.imp id (fun ⟨g, cap, cur, h1, h2, h3, h4⟩ => ⟨g, cap, cur, h1, h2, blockOver k h3, h4⟩)⟩
def BlkBd (b : Blk) : Prop := Bd b.id ∧ Bd b.kd ∧ Bd b.st ∧ Bd b.rf ∧ Bd b.lb.u ∧ Bd b.lb.ap ∧ Bd b.lb.d ∧ b.tx.length ≤ 65536 ∧ ∀ z ∈ b.lb.af, Bd z
theorem ints_of_own {w : World} {base : Nat} {a : Option Addr} {n c : Nat} {zs : List Int} (h : w.ownsRow base 3 1 (.slice a n c) n (zs.map (Value.int .i64))) (hz : ∀ z ∈ zs, Bd z) : IsInts .i64 w a n c zs := by
  obtain ⟨h1, h2⟩ := h
  have hl : zs.length = n := by simpa using h1
  rcases h2 with ⟨hv, hn⟩ | ⟨g, cap, cur, hv, hg, hh, hnc, hcm, hcs, ht⟩
  · cases hv
    exact ⟨hl, Nat.le_refl _, by unfold maxLen; omega, fun z hz' => of_wf64 (hz z hz'), .inl rfl⟩
  · cases hv
    refine ⟨hl, hnc, hcm, fun z hz' => of_wf64 (hz z hz'), .inr ⟨g, 0, rfl, fun i hi => ?_⟩⟩
    have hi' : i < zs.length := by omega
    have h3 : (zs.map (Value.int .i64))[i]? = some (.int .i64 (zs.getD i 0)) := by simp [List.getD, hi']
    rw [← ht, List.getElem?_take] at h3
    split at h3
    · rw [Joins.cell_of_block hh]
      simpa using h3
    · simp at h3
def BeIn (base : Nat) (W : World) (e : BE) : Prop := BlkBd e.1 ∧ W.ownsRow base 3 1 (.slice e.2.1 e.2.2.1 e.2.2.2) e.2.2.1 (e.1.lb.af.map (Value.int .i64))
theorem BeIn.ok {base : Nat} {W : World} {e : BE} (h : BeIn base W e) : BeOk W e := by
  obtain ⟨⟨h1, h2, h3, h4, h5, h6, h7, h8, h9⟩, h10⟩ := h
  exact ⟨⟨ints_of_own h10 h9, h5, h6, h7⟩, by unfold maxLen; omega, h1, h2, h3, h4⟩
theorem own_type {w : World} {base : Nat} {e : TypeId} {size : Nat} {v : Value} {n : Nat} {xs : List Value} (h : w.ownsRow base e size v n xs) {g : Nat} (hg : v.ownBlock = some g) : ∃ cur, w.heap[g]? = some (.cells cur e (0, 0)) := by
  obtain ⟨h1, ⟨h2, h3⟩ | ⟨g', cap, cur, h2, _, h4, _⟩⟩ := h
  · rw [h2] at hg; cases hg
  · rw [h2] at hg; cases hg; exact ⟨cur, h4⟩
theorem own_grown {w w' : World} {base b2 : Nat} {e e2 : TypeId} {size s2 : Nat} {v v2 : Value} {n n2 : Nat} {xs ys : List Value} (h : w.ownsRow base e size v n xs) (h2 : w.ownsRow b2 e2 s2 v2 n2 ys) (hne : e ≠ e2) (hg : w.grownBy w' v2.ownBlock) : w'.ownsRow base e size v n xs := by
  refine ⟨h.1, h.2.imp id ?_⟩
  rintro ⟨g, cap, cur, h1, h3, h4, h5⟩
  refine ⟨g, cap, cur, h1, h3, (hg.block g (Array.getElem?_eq_some_iff.1 h4).1 (fun e' => ?_)).trans h4, h5⟩
  obtain ⟨cur2, hc⟩ := own_type h2 e'.symm
  rw [h4] at hc
  cases hc
  exact hne rfl
theorem flat9_at : ∀ (es : List BE) (k : Nat) (e : BE), es[k]? = some e → ∀ j v, (elB e)[j]? = some v → (es.flatMap elB)[k * 9 + j]? = some v
  | [], k, e, h, _, _, _ => by simp at h
  | x :: es, 0, e, h, j, v, hv => by
    simp at h
    subst h
    have hj : j < (elB x).length := (List.getElem?_eq_some_iff.1 hv).1
    rw [List.flatMap_cons, Nat.zero_mul, Nat.zero_add, List.getElem?_append_left hj, hv]
  | x :: es, k + 1, e, h, j, v, hv => by
    simp at h
    have := flat9_at es k e h j v hv
    rw [List.flatMap_cons, List.getElem?_append_right (by simp [elB]; omega)]
    rw [show (k + 1) * 9 + j - (elB x).length = k * 9 + j by simp [elB]; omega]
    exact this
theorem flat9_len (es : List BE) : (es.flatMap elB).length = es.length * 9 := by
  induction es with
  | nil => rfl
  | cons e es ih => rw [List.flatMap_cons, List.length_append, ih, List.length_cons]; simp [elB]; omega
theorem blks_of_own {W : World} {base : Nat} {a : Option Addr} {n c : Nat} {es : List BE} (h : W.ownsRow base 49 9 (.slice a n c) n (es.flatMap elB)) (he : ∀ e ∈ es, BeOk W e) : IsBlks W a n c es := by
  obtain ⟨h1, h2⟩ := h
  rw [flat9_len] at h1
  have hl : es.length = n := by omega
  rcases h2 with ⟨hv, hn⟩ | ⟨g, cap, cur, hv, hg, hh, hnc, hcm, hcs, ht⟩
  · cases hv
    exact ⟨hl, Nat.le_refl _, by unfold maxLen; omega, he, .inl rfl⟩
  · cases hv
    refine ⟨hl, hnc, hcm, he, .inr ⟨g, 0, rfl, fun k e hke j v hv => ?_⟩⟩
    have h3 := flat9_at es k e hke j v hv
    rw [← ht, List.getElem?_take] at h3
    split at h3
    · rw [Joins.cell_of_block hh, Nat.zero_add]
      simpa using h3
    · simp at h3
theorem blkInfo : (Tryz.prog.info? 49).map (fun i => (i.zero, i.size, i.bytes)) = some (some (.agg #[.int .i64 0, .int .i64 0, .string ⟨#[]⟩, .int .i64 0, .int .i64 0, .int .i64 0, .slice none 0 0, .int .i64 0, .int .i64 0]), 9, 96) := by kernel_rfl
theorem elB_cell (e : BE) : ∀ u ∈ elB e, u.oneCell' = true := by simp [elB, Value.oneCell']
theorem elB_news (w : World) (e : BE) : ∀ j u, (elB e)[j]? = some u → (w.alloc (.cells (elB e).toArray 49)).cell? ((⟨w.heap.size, 0, none⟩ : Addr).add j) = some u := by
  intro j u h
  rw [add_at, Joins.cell_of_block (heap_alloc_new w _)]
  simpa using h
theorem extract_mk (l : List UInt8) (k : Nat) : (⟨l.toArray⟩ : ByteArray).extract 0 k = ⟨(l.take k).toArray⟩ := bytes_ext (by rw [extract_toList]; simp)
theorem new_news (W : World) (g : Nat) (hg : g = W.heap.size) (l : List Value) (t : TypeId) : ∀ j u, l[j]? = some u → (W.alloc (.cells l.toArray t)).cell? ((⟨g, 0, none⟩ : Addr).add j) = some u := by
  intro j u h
  subst hg
  rw [add_at, Joins.cell_of_block (heap_alloc_new W _)]
  simpa using h
theorem take_snoc {α : Type} {l : List α} {k : Nat} {e : α} (he : l[k]? = some e) : l.take (k + 1) = l.take k ++ [e] := by
  rw [List.take_add_one, he]; rfl
theorem boxed_over {W W' : World} {B t : Nat} {v : Value} (h : Boxed W B t v) (hb : Below W.heap.size W W') : Boxed W' B t v := blockOver hb h
theorem keepsOthers_below {W W' : World} (hb : Below W.heap.size W W') : KeepsOthers W W' :=
  ⟨hb.size, fun k o hk _ => (hb.block k (Array.getElem?_eq_some_iff.1 hk).1).trans hk⟩
theorem own_cells {w : World} {base : Nat} {e : TypeId} {size : Nat} {g n cap : Nat} {xs : List Value} (h : w.ownsRow base e size (.slice (some ⟨g, 0, none⟩) n cap) n xs) : ∀ j u, xs[j]? = some u → w.cell? ((⟨g, 0, none⟩ : Addr).add j) = some u := by
  intro j u hj
  rcases h.2 with ⟨hv, _⟩ | ⟨g', cap', cur, hv, hg, hh, hnc, hcm, hcs, ht⟩
  · cases hv
  · cases hv
    rw [add_at, Joins.cell_of_block hh, Nat.zero_add]
    rw [← ht, List.getElem?_take] at hj
    split at hj
    · simpa using hj
    · simp at hj
theorem own_what {w : World} {base : Nat} {e : TypeId} {size : Nat} {v : Value} {n : Nat} {xs : List Value} (h : w.ownsRow base e size v n xs) : (v = .slice none 0 0 ∧ n = 0 ∧ xs = []) ∨ ∃ g cap, v = .slice (some ⟨g, 0, none⟩) n cap := by
  rcases h.2 with ⟨hv, h0⟩ | ⟨g, cap, cur, hv, _⟩
  · exact .inl ⟨hv, h0, List.length_eq_zero_iff.1 (by rw [h.1, h0]; simp)⟩
  · exact .inr ⟨g, cap, hv⟩
theorem wpList_append_blks {w : World} {ops : Array Oper} {rest : List Oper} {o : Oper} {a : Act} {Q : Exit → Act → World → Prop} (hgd : o.guard = none) (s x : Operand)
    (ho : o.op = .call { callee := .builtin .append, args := #[s, x], argTypes := #[23, 23] })
    (base b2 : Nat) (v u : Value) (es fs : List BE) (hs : a.eval s = v) (hown : w.ownsRow base 49 9 v es.length (es.flatMap elB)) (hx : a.eval x = u) (hrow : w.ownsRow b2 49 9 u fs.length (fs.flatMap elB))
    (hn : es.length + fs.length ≤ 1000) (hbase : base ≤ w.heap.size)
    (h : ∀ v' w', w'.ownsRow base 49 9 v' (es ++ fs).length ((es ++ fs).flatMap elB) → w.grownBy w' v.ownBlock → wpList Tryz.prog ops Q rest (a.put o.dst v') w') : wpList Tryz.prog ops Q (o :: rest) a w := by
  obtain ⟨i0, hi, hz0, hz1, hz2⟩ := info_parts blkInfo
  rcases own_what hrow with ⟨hu, h0, hnil⟩ | ⟨g, cap, hu⟩
  · have hf : fs = [] := List.length_eq_zero_iff.1 h0
    subst hf
    rw [List.append_nil] at h
    exact wpList_append_own_none (w := w) hgd s x 23 ho base 49 i0 9 Tryz.underlying23 hi v _ _ hs hown (hx.trans hu) (h v w hown (World.grownBy.refl _ _))
  · refine wpList_append_own w hgd s x 23 ho base 49 i0 _ 9 96 Tryz.underlying23 hi hz0 hz1 hz2 rfl (by decide) v _ _ hs hown ⟨g, 0, none⟩ fs.length cap (fs.flatMap elB) (hx.trans hu) (flat9_len fs) (own_cells (by rw [hu] at hrow; exact hrow)) (fun u hu => ?_) (by unfold maxLen; omega) (by omega) hbase (fun v' w' h1 h2 _ => h v' w' (by rw [List.length_append, List.flatMap_append]; exact h1) h2)
    obtain ⟨e, _, he⟩ := List.mem_flatMap.1 hu
    exact elB_cell e u he
end Go.Proofs.YtlhcckjfgpcohaaGreatDoor
