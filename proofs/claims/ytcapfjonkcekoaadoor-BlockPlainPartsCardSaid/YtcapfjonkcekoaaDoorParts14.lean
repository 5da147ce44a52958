/- BlockPlainParts: the walk of the statement's text. -/
import Derived.Test.YtcapfjonkcekoaaDoorBlkR
import Derived.Laws.AppendOwnNone
namespace Go.Proofs.YtcapfjonkcekoaaDoor
open Go.RowKit Go.MapKept
set_option maxRecDepth 100000
set_option linter.unusedSimpArgs false
set_option linter.unusedVariables false
set_option maxHeartbeats 8000000 in
theorem short_own (a : Option Addr) (n c : Nat) (es : List BE) (w : World) (h : IsBlks w a n c es) :
    Calls Tryd.prog 17 #[.slice a n c] w fun x w' => ∃ a' c', x = .returned (.slice a' (shS es).length c') ∧ IsBlks w' a' (shS es).length c' (shS es) ∧ Below w.heap.size w w' ∧ w'.ownsRow w.heap.size 26 9 (.slice a' (shS es).length c') (shS es).length ((shS es).flatMap elB) := by
  have hcm := h.2.2.1
  have hnc := h.2.1
  have HL := Lib.hid h.1
  have H := Lib.hid h
  unfold maxLen at hcm
  clear h
  obtain ⟨i0, hi, hz0, hz1, hz2⟩ := info_parts blkInfo
  go_enter Tryd.func17, Tryd.ntmps17
  go_wp2_with fail
  go_loopw [4, 3, 5] (fun i v _ wr => ∃ k : Nat, k ≤ n ∧ k ≤ 30 ∧ i = .int .i64 k ∧ Hid (wr.ownsRow w.heap.size 26 9 v k (((es.take k).map shE).flatMap elB)) ∧ Hid (Below w.heap.size w wr)) (fun i _ _ _ => n - (intOf i).toNat)
  case atStart => exact ⟨0, Nat.zero_le _, Nat.zero_le _, rfl, Lib.hid (World.ownsRow_nil _ _ _ _), Lib.hid (Below.refl _ _)⟩
  case round =>
    obtain ⟨k, hk, hk30, rfl, hown, hb⟩ := hrel
    obtain ⟨va, vc, rfl⟩ := own_slice hown.out
    by_cases hlt : k < n ∧ k < 30
    · obtain ⟨hlt1, hlt2⟩ := hlt
      obtain ⟨b, off, e, rfl, he, hok, h9⟩ := (H.out.over hb.out).at_ hlt1
      have HE := Lib.hid (sh_succ he)
      obtain ⟨p0, p1, p2, p3, p4, p5, p6, p7, p8⟩ := h9
      have g1 : (k : Int) < n := by omega
      have g2 : (k : Int) < 30 := by omega
      have htx := hok.2.1
      have hsz : (⟨e.1.tx.toArray⟩ : ByteArray).size = e.1.tx.length := mk_size' _
      unfold maxLen at htx
      clear he hok
      obtain ⟨j, hj, hjm, hjt⟩ : ∃ j : Nat, min (e.1.tx.length : Int) 1000 = (j : Int) ∧ j ≤ e.1.tx.length ∧ e.1.tx.take 1000 = e.1.tx.take j := by
        by_cases q : e.1.tx.length ≤ 1000
        · exact ⟨e.1.tx.length, by omega, Nat.le_refl _, by rw [List.take_length, List.take_of_length_le q]⟩
        · exact ⟨1000, by omega, by omega, rfl⟩
      have HJT := Lib.hid hjt
      clear hjt
      have HNW : Hid (([.int .i64 e.1.id, .int .i64 e.1.kd, .string ((⟨e.1.tx.toArray⟩ : ByteArray).extract 0 j), .int .i64 e.1.st, .int .i64 e.1.rf, .int .i64 e.1.lb.u, .slice e.2.1 e.2.2.1 e.2.2.2, .int .i64 e.1.lb.ap, .int .i64 e.1.lb.d] : List Value) = elB (shE e)) := Lib.hid (by
        simp only [elB, shE, shB]
        rw [HJT.out, extract_mk])
      have hnews := Lib.hid (new_news (wr.alloc (.cells #[.int .i64 e.1.id, .int .i64 e.1.kd, .string ((⟨e.1.tx.toArray⟩ : ByteArray).extract 0 j), .int .i64 e.1.st, .int .i64 e.1.rf, .int .i64 e.1.lb.u, .slice e.2.1 e.2.2.1 e.2.2.2, .int .i64 e.1.lb.ap, .int .i64 e.1.lb.d] 26)) (wr.heap.size + 1) (by simp) [.int .i64 e.1.id, .int .i64 e.1.kd, .string ((⟨e.1.tx.toArray⟩ : ByteArray).extract 0 j), .int .i64 e.1.st, .int .i64 e.1.rf, .int .i64 e.1.lb.u, .slice e.2.1 e.2.2.1 e.2.2.2, .int .i64 e.1.lb.ap, .int .i64 e.1.lb.d] 26)
      have hcell1 := Lib.hid (show ∀ u ∈ ([.int .i64 e.1.id, .int .i64 e.1.kd, .string ((⟨e.1.tx.toArray⟩ : ByteArray).extract 0 j), .int .i64 e.1.st, .int .i64 e.1.rf, .int .i64 e.1.lb.u, .slice e.2.1 e.2.2.1 e.2.2.2, .int .i64 e.1.lb.ap, .int .i64 e.1.lb.d] : List Value), u.oneCell' = true by simp [Value.oneCell'])
      have hb0 := hb.out.size
      go_wp2_with (at_builtin; refine wpList_append_own _ rfl (.tmp 28) (.tmp 30) 27 rfl w.heap.size 26 i0 _ 9 96 Tryd.underlying27 hi hz0 hz1 hz2 rfl (by decide) _ k _ rfl ((hown.out.alloc _).alloc _) ⟨wr.heap.size + 1, 0, none⟩ 1 1 [.int .i64 e.1.id, .int .i64 e.1.kd, .string ((⟨e.1.tx.toArray⟩ : ByteArray).extract 0 j), .int .i64 e.1.st, .int .i64 e.1.rf, .int .i64 e.1.lb.u, .slice e.2.1 e.2.2.1 e.2.2.2, .int .i64 e.1.lb.ap, .int .i64 e.1.lb.d] rfl rfl hnews.out hcell1.out (by unfold maxLen; omega) (by omega) (by simp; omega) ?_; intro v' w3 hown1 hg _; obtain ⟨a', c', rfl⟩ := own_slice hown1)
      have hRr : ∀ q, Value.ownBlock (.slice va k vc) = some q → w.heap.size ≤ q := fun q hq => (hown.out.lt _ hq).1
      have B3 := Lib.hid (((hb.out.alloc hb.out.size (.cells #[.int .i64 e.1.id, .int .i64 e.1.kd, .string ((⟨e.1.tx.toArray⟩ : ByteArray).extract 0 j), .int .i64 e.1.st, .int .i64 e.1.rf, .int .i64 e.1.lb.u, .slice e.2.1 e.2.2.1 e.2.2.2, .int .i64 e.1.lb.ap, .int .i64 e.1.lb.d] 26)).alloc (by simp; omega) (.cells #[.int .i64 e.1.id, .int .i64 e.1.kd, .string ((⟨e.1.tx.toArray⟩ : ByteArray).extract 0 j), .int .i64 e.1.st, .int .i64 e.1.rf, .int .i64 e.1.lb.u, .slice e.2.1 e.2.2.1 e.2.2.2, .int .i64 e.1.lb.ap, .int .i64 e.1.lb.d] 26)).grown hg (by simp; omega) hRr)
      have OWN3 := Lib.hid hown1
      clear hown1 hg hRr hb0 hnews hcell1
      go_wp2
      go_roundw
      case rel => exact ⟨k + 1, by omega, by omega, by go_num, Lib.hid (by rw [HE.out, ← HNW.out]; exact OWN3.out), B3⟩
      case measure => simp [intOf]; omega
    · have hlen : (shS es).length = k := by
        simp only [shS, List.length_map, List.length_take, HL.out]; omega
      have hes : (es.take k).map shE = shS es := by
        unfold shS
        rcases Nat.lt_or_ge k 30 with h30 | h30
        · have hkn : k = n := by omega
          rw [List.take_of_length_le (by rw [HL.out]; omega), List.take_of_length_le (by rw [HL.out]; omega)]
        · rw [show k = 30 by omega]
      have HI := Lib.hid (blks_of_own (es := shS es) (by rw [← hes]; exact hown.out) (fun e he => by
        obtain ⟨e', he', rfl⟩ := List.mem_map.1 he
        exact shE_ok ((H.out.over hb.out).2.2.2.1 e' (List.mem_of_mem_take he'))))
      have HLEN := Lib.hid hlen
      have HOW := Lib.hid (show wr.ownsRow w.heap.size 26 9 (.slice va k vc) k ((shS es).flatMap elB) by rw [← hes]; exact hown.out)
      clear hes hlen
      by_cases h1 : (k : Int) < n
      · have h2 : ¬ (k : Int) < 30 := by omega
        clear hlt
        go_wp2
        go_ret
        exact ⟨va, vc, by rw [HLEN.out]; rfl, by rw [HLEN.out]; exact HI.out, hb.out, by rw [HLEN.out]; exact HOW.out⟩
      · clear hlt
        go_wp2
        go_ret
        exact ⟨va, vc, by rw [HLEN.out]; rfl, by rw [HLEN.out]; exact HI.out, hb.out, by rw [HLEN.out]; exact HOW.out⟩
theorem own_cells {w : World} {base : Nat} {e : TypeId} {size : Nat} {g n cap : Nat} {xs : List Value} (h : w.ownsRow base e size (.slice (some ⟨g, 0, none⟩) n cap) n xs) : ∀ j u, xs[j]? = some u → w.cell? ((⟨g, 0, none⟩ : Addr).add j) = some u := by
  intro j u hj
  rcases h.2 with ⟨hv, _⟩ | ⟨g', cap', cur, hv, hg, hh, hnc, hcm, hcs, ht⟩
  · cases hv
  · cases hv
    rw [add_at, Joins.cell_of_block hh, Nat.zero_add]
    rw [← ht, List.getElem?_take] at hj
    split at hj
    · simpa using hj
    · simp at hj
theorem own_what {w : World} {base : Nat} {e : TypeId} {size : Nat} {v : Value} {n : Nat} {xs : List Value} (h : w.ownsRow base e size v n xs) : (v = .slice none 0 0 ∧ n = 0 ∧ xs = []) ∨ ∃ g cap, v = .slice (some ⟨g, 0, none⟩) n cap := by
  rcases h.2 with ⟨hv, h0⟩ | ⟨g, cap, cur, hv, _⟩
  · exact .inl ⟨hv, h0, List.length_eq_zero_iff.1 (by rw [h.1, h0]; simp)⟩
  · exact .inr ⟨g, cap, hv⟩
/-- Appending one row of blocks to another that the call owns. -/
theorem wpList_append_blks {w : World} {ops : Array Oper} {rest : List Oper} {o : Oper} {a : Act} {Q : Exit → Act → World → Prop} (hgd : o.guard = none) (s x : Operand)
    (ho : o.op = .call { callee := .builtin .append, args := #[s, x], argTypes := #[27, 27] })
    (base b2 : Nat) (v u : Value) (es fs : List BE) (hs : a.eval s = v) (hown : w.ownsRow base 26 9 v es.length (es.flatMap elB)) (hx : a.eval x = u) (hrow : w.ownsRow b2 26 9 u fs.length (fs.flatMap elB))
    (hn : es.length + fs.length ≤ 1000) (hbase : base ≤ w.heap.size)
    (h : ∀ v' w', w'.ownsRow base 26 9 v' (es ++ fs).length ((es ++ fs).flatMap elB) → w.grownBy w' v.ownBlock → wpList Tryd.prog ops Q rest (a.put o.dst v') w') : wpList Tryd.prog ops Q (o :: rest) a w := by
  obtain ⟨i0, hi, hz0, hz1, hz2⟩ := info_parts blkInfo
  rcases own_what hrow with ⟨hu, h0, hnil⟩ | ⟨g, cap, hu⟩
  · have hf : fs = [] := List.length_eq_zero_iff.1 h0
    subst hf
    rw [List.append_nil] at h
    exact wpList_append_own_none (w := w) hgd s x 27 ho base 26 i0 9 Tryd.underlying27 hi v _ _ hs hown (hx.trans hu) (h v w hown (World.grownBy.refl _ _))
  · refine wpList_append_own w hgd s x 27 ho base 26 i0 _ 9 96 Tryd.underlying27 hi hz0 hz1 hz2 rfl (by decide) v _ _ hs hown ⟨g, 0, none⟩ fs.length cap (fs.flatMap elB) (hx.trans hu) (flat9_len fs) (own_cells (by rw [hu] at hrow; exact hrow)) (fun u hu => ?_) (by unfold maxLen; omega) (by omega) hbase (fun v' w' h1 h2 _ => h v' w' (by rw [List.length_append, List.flatMap_append]; exact h1) h2)
    obtain ⟨e, _, he⟩ := List.mem_flatMap.1 hu
    exact elB_cell e u he
set_option maxHeartbeats 4000000 in
theorem parts14 (a : Option Addr) (n c : Nat) (es : List BE) (a2 : Option Addr) (n2 c2 : Nat) (fs : List BE) (w : World) (h : IsBlks w a n c es) (h2 : IsBlks w a2 n2 c2 fs) :
    Calls Tryd.prog 14 #[.slice a n c, .slice a2 n2 c2] w fun x w' => x = .returned (.bool true) ∧ Below w.heap.size w w' := by
  have H := Lib.hid h
  have H2 := Lib.hid h2
  clear h h2
  go_enter Tryd.func14, Tryd.ntmps14
  go_wp2_with fail
  refine (sane_any w).mono ?_
  rintro x w1 ⟨rfl, b1⟩
  have B1 := Lib.hid b1
  clear b1
  go_wp2_with fail
  refine (short_own a n c es w1 (H.out.over B1.out)).mono ?_
  rintro x w2 ⟨a', c', rfl, hi, b2, ho⟩
  have O1 := Lib.hid ho
  have B2 := Lib.hid (bel2 B1.out b2)
  have I1 := Lib.hid hi
  clear b2 hi ho
  go_wp2_with fail
  refine (short_own a2 n2 c2 fs w2 (H2.out.over B2.out)).mono ?_
  rintro x w3 ⟨a2', c2', rfl, hi, b3, ho⟩
  have O2 := Lib.hid ho
  have O3 := Lib.hid (own_over O1.out b3)
  have B3 := Lib.hid (bel2 B2.out b3)
  have I2 := Lib.hid hi
  have J1 := Lib.hid (I1.out.over b3)
  have L1 := shS_len es
  have L2 := shS_len fs
  have X1 := Lib.hid (shS_tx (es := es))
  have X2 := Lib.hid (shS_tx (es := fs))
  clear b3 hi I1 H H2 B1 B2 O1 ho
  generalize shS es = es at *
  generalize shS fs = fs at *
  have Z0 := Lib.hid (below_alloc w3 (.cells #[] 26))
  have E0 := Lib.hid (show (w3.alloc (.cells #[] 26)).ownsRow w3.heap.size 26 9 (.slice (some ⟨w3.heap.size, 0, none⟩) 0 0) ([] : List BE).length (([] : List BE).flatMap elB) from ⟨rfl, .inr ⟨_, 0, #[], rfl, Nat.le_refl _, heap_alloc_new w3 _, Nat.le_refl _, by unfold maxLen; omega, rfl, rfl⟩⟩)
  have O4 := Lib.hid (own_over O3.out Z0.out)
  have BZ := Lib.hid (Below.refl w3.heap.size w3)
  go_wp2_with (first
    | (at_builtin; refine wpList_append_blks rfl _ _ rfl w3.heap.size w1.heap.size (.slice (some ⟨w3.heap.size, 0, none⟩) 0 0) (.slice a' es.length c') [] es rfl E0.out rfl O4.out (by simp; omega) (by simp) ?_; intro v1 w4 ho hg
       have B4 := Lib.hid ((BZ.out.alloc (Nat.le_refl _) (.cells #[] 26)).grown hg (by simp) (fun q hq => by cases hq; exact Nat.le_refl _))
       have P1 := Lib.hid (show w4.ownsRow w3.heap.size 26 9 v1 es.length (es.flatMap elB) from ho)
       have O5 := Lib.hid (own_over O2.out B4.out)
       have hs4 := B4.out.size
       clear ho hg)
    | (at_builtin; refine wpList_append_blks rfl _ _ rfl w3.heap.size w2.heap.size v1 (.slice a2' fs.length c2') es fs rfl P1.out rfl O5.out (by omega) hs4 ?_; intro v2 w5 ho hg
       have B5 := Lib.hid (B4.out.grown hg hs4 (fun q hq => (P1.out.lt q hq).1))
       obtain ⟨va, vc, rfl⟩ := own_slice ho
       have P2 := Lib.hid ho
       clear ho hg)
    | fail)
  have HE := Lib.hid (fun W (hb : Below w3.heap.size w3 W) => (J1.out.over hb).2.2.2.1)
  have HF := Lib.hid (fun W (hb : Below w3.heap.size w3 W) => (I2.out.over hb).2.2.2.1)
  have N1 := Lib.hid (blks_of_own P2.out (fun e he => by
    rcases List.mem_append.1 he with h | h
    · exact HE.out w5 B5.out e h
    · exact HF.out w5 B5.out e h))
  rw [List.length_append] at N1
  have XA : Hid (∀ e ∈ es ++ fs, e.1.tx.length ≤ 1000) := Lib.hid (fun e he => by
    rcases List.mem_append.1 he with h | h
    · exact X1.out e h
    · exact X2.out e h)
  have HP := Lib.hid (show plainP (blks (es ++ fs)) = plainP (blks es) ++ plainP (blks fs) by unfold blks; rw [List.map_append, plainP_app])
  have q1 : (plainP (blks es)).length ≤ 100000 := by
    have := plainP_len (blks es) 1000 (fun b hb => by obtain ⟨e, he, rfl⟩ := List.mem_map.1 hb; exact X1.out e he)
    have : (2 * 1000 + 3) * (blks es).length ≤ (2 * 1000 + 3) * 30 := Nat.mul_le_mul_left _ (by simp [blks]; omega)
    omega
  have q2 : (plainP (blks fs)).length ≤ 100000 := by
    have := plainP_len (blks fs) 1000 (fun b hb => by obtain ⟨e, he, rfl⟩ := List.mem_map.1 hb; exact X2.out e he)
    have : (2 * 1000 + 3) * (blks fs).length ≤ (2 * 1000 + 3) * 30 := Nat.mul_le_mul_left _ (by simp [blks]; omega)
    omega
  have R1 := Lib.hid (J1.out.over B5.out)
  have R2 := Lib.hid (I2.out.over B5.out)
  have BB := Lib.hid (bel2 B3.out B5.out)
  clear B3 B4 B5 P1 P2 O2 O3 O4 O5 E0 Z0 BZ J1 I2 HE HF hs4
  refine (plain_any va _ vc (es ++ fs) w5 N1.out (by omega) XA.out).mono ?_
  rintro x w6 ⟨rfl, b6⟩
  have B6 := Lib.hid (bel2 BB.out b6)
  have R3 := Lib.hid (R1.out.over b6)
  have R4 := Lib.hid (R2.out.over b6)
  clear b6 BB R1 R2 N1 XA
  go_wp2_with fail
  refine (plain_any a' _ c' es w6 R3.out (by omega) X1.out).mono ?_
  rintro x w7 ⟨rfl, b7⟩
  have B7 := Lib.hid (bel2 B6.out b7)
  have R5 := Lib.hid (R4.out.over b7)
  clear b7 B6 R3 R4
  go_wp2_with fail
  refine (plain_any a2' _ c2' fs w7 R5.out (by omega) X2.out).mono ?_
  rintro x w8 ⟨rfl, b8⟩
  have B8 := Lib.hid (bel2 B7.out b8)
  clear b8 B7 R5
  have z1 : (⟨(plainP (blks es)).toArray⟩ : ByteArray).size = (plainP (blks es)).length := mk_size' _
  have z2 : (⟨(plainP (blks fs)).toArray⟩ : ByteArray).size = (plainP (blks fs)).length := mk_size' _
  rw [HP.out]
  go_wp2
  go_ret
  refine ⟨?_, B8.out⟩
  show Ending.returned (.bool (plainP (blks es) ++ plainP (blks fs) == ((⟨(plainP (blks es)).toArray⟩ : ByteArray) ++ (⟨(plainP (blks fs)).toArray⟩ : ByteArray)).toList)) = _
  rw [ByteArray.toList_eq]; simp
end Go.Proofs.YtcapfjonkcekoaaDoor
