import Derived.Test.YtelipjjjlgnjoaaGreatDoorMgM
import Derived.OneCell
namespace Go.Proofs.YtelipjjjlgnjoaaGreatDoor
open Go.RowKit Go.MapKept Go.Shelf
attribute [local go_sem] Oper.semAt_some
set_option maxRecDepth 100000
set_option linter.unusedSimpArgs false
set_option linter.unusedVariables false
theorem run_append_intsB (w : World) (base : Nat) (v : Value) (n : Nat) (xs : List Value) (hown : w.ownsRow base 3 1 v n xs) (a : Option Addr) (m c : Nat) (zs : List Int) (hz : IsInts .i64 w a m c zs) (h63 : n + m ≤ maxLen) (h47 : (n + m) * 8 ≤ 140737488355328) (hbase : base ≤ w.heap.size) :
    ∃ v' w', (Builtin.append_ #[25, 25] 25 #[v, .slice a m c]).run Tryz.prog w = .ok v' w' ∧ w'.ownsRow base 3 1 v' (n + m) (xs ++ zs.map (Value.int .i64)) ∧ w.grownBy w' v.ownBlock := by
  obtain ⟨i0, hi, hz0, hz1, hz2⟩ := info_parts intInfo'
  rcases a with _ | ad
  · have hm : m = 0 := by
      rcases hz.2.2.2.2 with h0 | ⟨b, off, e, _⟩
      · exact h0
      · cases e
    subst hm
    have hzn : zs = [] := List.eq_nil_of_length_eq_zero hz.1
    subst hzn
    exact ⟨v, w, append_none w 25 25 3 i0 1 Tryz.underlying25 hi base v n xs hown c, by simpa using hown, ⟨rfl, rfl, rfl, Nat.le_refl _, fun _ _ _ => rfl⟩⟩
  · obtain ⟨v', w', hr, h2, h3, h4, h5⟩ := run_append_own_at (P := Tryz.prog) w base 25 25 3 i0 (.int .i64 0) 1 8 Tryz.underlying25 hi hz0 hz1 hz2 rfl (by decide) v n xs hown ad m c (zs.map (Value.int .i64)) (by simpa using hz.1) (news_of hz) (one_cells zs) h63 h47 hbase
    exact ⟨v', w', hr, h2, h3⟩
theorem own_empty (w : World) (base : Nat) (hb : base ≤ w.heap.size) : (w.alloc (.cells #[] 3)).ownsRow base 3 1 (.slice (some ⟨w.heap.size, 0, none⟩) 0 0) 0 [] :=
  ⟨rfl, .inr ⟨w.heap.size, 0, #[], rfl, hb, heap_alloc_new w _, Nat.le_refl _, Nat.zero_le _, rfl, rfl⟩⟩
theorem bd_short {w : World} {e : BE} (h : BeOk w e) : BlkBd (shB e.1) := by
  obtain ⟨⟨h1, h2, h3, h4⟩, h5, h6, h7, h8, h9⟩ := h
  refine ⟨h6, h7, h8, h9, h2, h3, h4, ?_, fun z hz => wf64 (h1.2.2.2.1 z hz)⟩
  show (e.1.tx.take 400).length ≤ 65536
  rw [List.length_take]; omega
set_option maxHeartbeats 8000000 in
/-- The law's fresh: a copy of a list, its affected lists copied as well. -/
theorem fresh_any (a : Option Addr) (n c : Nat) (es : List BE) (w : World) (h : IsBlks w a n c es) (hs : ∀ e ∈ es, e.1.lb.af.length * 8 ≤ 140737488355328) :
    Calls Tryz.prog 25 #[.slice a n c] w fun x w' => ∃ a' c' rs, x = .returned (.slice a' rs.length c') ∧ blks rs = (blks (es.take 30)).map shB ∧ w'.ownsRow w.heap.size 39 9 (.slice a' rs.length c') rs.length (rs.flatMap elB) ∧ (∀ e ∈ rs, BeIn w.heap.size w' e) ∧ Below w.heap.size w w' := by
  have hcm := h.2.2.1
  have hnc := h.2.1
  have HL := Lib.hid h.1
  have H := Lib.hid h
  have HS := Lib.hid hs
  unfold maxLen at hcm
  clear h hs
  obtain ⟨j0, hj0, hy0, hy1, hy2⟩ := info_parts blkInfo
  go_enter Tryz.func25, Tryz.ntmps25
  go_wp2_with fail
  go_loopw [4, 3, 5] (fun i v _ wr => ∃ (k : Nat) (rs : List BE), k ≤ n ∧ k ≤ 30 ∧ rs.length = k ∧ i = .int .i64 k ∧ Hid (blks rs = (blks (es.take k)).map shB) ∧ Hid (wr.ownsRow w.heap.size 39 9 v k (rs.flatMap elB)) ∧ Hid (∀ e ∈ rs, BeIn w.heap.size wr e) ∧ Hid (Below w.heap.size w wr)) (fun i _ _ _ => n - (intOf i).toNat)
  case atStart => exact ⟨0, [], Nat.zero_le _, Nat.zero_le _, rfl, rfl, Lib.hid (by simp [blks]), Lib.hid (World.ownsRow_nil _ _ _ _), Lib.hid (by simp), Lib.hid (Below.refl _ _)⟩
  case round =>
    obtain ⟨k, rs, hk, hk30, hrl, rfl, hrs, hown, hin, hb⟩ := hrel
    obtain ⟨va, vc, rfl⟩ := own_slice hown.out
    have HRL := Lib.hid hrl
    clear hrl
    by_cases hlt : k < n ∧ k < 30
    · obtain ⟨hlt1, hlt2⟩ := hlt
      obtain ⟨b, off, e, rfl, he, hok, h9⟩ := (H.out.over hb.out).at_ hlt1
      have HE := Lib.hid he
      have HSE := Lib.hid (HS.out e (List.mem_of_getElem? he))
      obtain ⟨p0, p1, p2, p3, p4, p5, p6, p7, p8⟩ := h9
      have g1 : (k : Int) < n := by omega
      have g2 : (k : Int) < 30 := by omega
      have htx := hok.2.1
      have hsz : (⟨e.1.tx.toArray⟩ : ByteArray).size = e.1.tx.length := mk_size' _
      unfold maxLen at htx
      have HOK := Lib.hid hok
      clear he hok
      obtain ⟨j, hj, hjm, hjt⟩ : ∃ j : Nat, min (e.1.tx.length : Int) 400 = (j : Int) ∧ j ≤ e.1.tx.length ∧ e.1.tx.take 400 = e.1.tx.take j := by
        by_cases q : e.1.tx.length ≤ 400
        · exact ⟨e.1.tx.length, by omega, Nat.le_refl _, by rw [List.take_length, List.take_of_length_le q]⟩
        · exact ⟨400, by omega, by omega, rfl⟩
      have HJT := Lib.hid hjt
      clear hjt
      have HLN := Lib.hid (show e.2.2.1 = e.1.lb.af.length from HOK.out.1.1.1.symm)
      have hnl : e.2.2.1 * 8 ≤ 140737488355328 := by rw [HLN.out]; exact HSE.out
      have hown0 : ((wr.alloc (.cells #[.int .i64 e.1.id, .int .i64 e.1.kd, .string ((⟨e.1.tx.toArray⟩ : ByteArray).extract 0 j), .int .i64 e.1.st, .int .i64 e.1.rf, .int .i64 e.1.lb.u, .slice e.2.1 e.2.2.1 e.2.2.2, .int .i64 e.1.lb.ap, .int .i64 e.1.lb.d] 39)).alloc (.cells #[] 3)).ownsRow (wr.heap.size + 1) 3 1 (.slice (some ⟨wr.heap.size + 1, 0, none⟩) 0 0) 0 [] := by
        have h := own_empty (wr.alloc (.cells #[.int .i64 e.1.id, .int .i64 e.1.kd, .string ((⟨e.1.tx.toArray⟩ : ByteArray).extract 0 j), .int .i64 e.1.st, .int .i64 e.1.rf, .int .i64 e.1.lb.u, .slice e.2.1 e.2.2.1 e.2.2.2, .int .i64 e.1.lb.ap, .int .i64 e.1.lb.d] 39)) (wr.heap.size + 1) (by simp)
        rwa [show (wr.alloc (.cells #[.int .i64 e.1.id, .int .i64 e.1.kd, .string ((⟨e.1.tx.toArray⟩ : ByteArray).extract 0 j), .int .i64 e.1.st, .int .i64 e.1.rf, .int .i64 e.1.lb.u, .slice e.2.1 e.2.2.1 e.2.2.2, .int .i64 e.1.lb.ap, .int .i64 e.1.lb.d] 39)).heap.size = wr.heap.size + 1 by simp] at h
      have hbA : Below wr.heap.size wr ((wr.alloc (.cells #[.int .i64 e.1.id, .int .i64 e.1.kd, .string ((⟨e.1.tx.toArray⟩ : ByteArray).extract 0 j), .int .i64 e.1.st, .int .i64 e.1.rf, .int .i64 e.1.lb.u, .slice e.2.1 e.2.2.1 e.2.2.2, .int .i64 e.1.lb.ap, .int .i64 e.1.lb.d] 39)).alloc (.cells #[] 3)) := (below_alloc wr (.cells #[.int .i64 e.1.id, .int .i64 e.1.kd, .string ((⟨e.1.tx.toArray⟩ : ByteArray).extract 0 j), .int .i64 e.1.st, .int .i64 e.1.rf, .int .i64 e.1.lb.u, .slice e.2.1 e.2.2.1 e.2.2.2, .int .i64 e.1.lb.ap, .int .i64 e.1.lb.d] 39)).alloc (by simp) _
      obtain ⟨v', w2, hr, ho, hg⟩ := run_append_intsB ((wr.alloc (.cells #[.int .i64 e.1.id, .int .i64 e.1.kd, .string ((⟨e.1.tx.toArray⟩ : ByteArray).extract 0 j), .int .i64 e.1.st, .int .i64 e.1.rf, .int .i64 e.1.lb.u, .slice e.2.1 e.2.2.1 e.2.2.2, .int .i64 e.1.lb.ap, .int .i64 e.1.lb.d] 39)).alloc (.cells #[] 3)) (wr.heap.size + 1) (.slice (some ⟨wr.heap.size + 1, 0, none⟩) 0 0) 0 [] hown0 e.2.1 e.2.2.1 e.2.2.2 e.1.lb.af (HOK.out.1.1.over hbA) (by unfold maxLen; omega) (by omega) (by simp)
      rw [Nat.zero_add, List.nil_append] at ho
      obtain ⟨a2, c2, rfl⟩ := own_slice ho
      have HR := Lib.hid hr
      have HO := Lib.hid ho
      have HG0 : Hid (w2.heap[wr.heap.size]? = some (.cells #[.int .i64 e.1.id, .int .i64 e.1.kd, .string ((⟨e.1.tx.toArray⟩ : ByteArray).extract 0 j), .int .i64 e.1.st, .int .i64 e.1.rf, .int .i64 e.1.lb.u, .slice e.2.1 e.2.2.1 e.2.2.2, .int .i64 e.1.lb.ap, .int .i64 e.1.lb.d] 39)) := Lib.hid (by
        rw [hg.block wr.heap.size (by simp; omega) (fun q => by simp [Value.ownBlock] at q)]
        rw [Below.heap_alloc _ _ _ (by simp)]
        exact heap_alloc_new wr _)
      have B2 := Lib.hid (grownBy_own_below (hb.out.trans (hbA.mono hb.out.size)) (own_mono hown0 (by have := hb.out.size; omega)) (by have := hb.out.size; simp; omega) hg)
      have O2 := Lib.hid ((((hown.out.alloc (.cells #[.int .i64 e.1.id, .int .i64 e.1.kd, .string ((⟨e.1.tx.toArray⟩ : ByteArray).extract 0 j), .int .i64 e.1.st, .int .i64 e.1.rf, .int .i64 e.1.lb.u, .slice e.2.1 e.2.2.1 e.2.2.2, .int .i64 e.1.lb.ap, .int .i64 e.1.lb.d] 39)).alloc (.cells #[] 3)).kept hg (.inr (fun q => by have := (hown.out.lt (wr.heap.size + 1) q).2; omega))))
      have I2 : Hid (∀ e' ∈ rs, BeIn w.heap.size w2 e') := Lib.hid (fun e' h' => by
        obtain ⟨x1, x2⟩ := hin.out e' h'
        exact ⟨x1, ((x2.alloc (.cells #[.int .i64 e.1.id, .int .i64 e.1.kd, .string ((⟨e.1.tx.toArray⟩ : ByteArray).extract 0 j), .int .i64 e.1.st, .int .i64 e.1.rf, .int .i64 e.1.lb.u, .slice e.2.1 e.2.2.1 e.2.2.2, .int .i64 e.1.lb.ap, .int .i64 e.1.lb.d] 39)).alloc (.cells #[] 3)).kept hg (.inr (fun q => by have := (x2.lt (wr.heap.size + 1) q).2; omega))⟩)
      have hsz2 : wr.heap.size + 1 + 1 ≤ w2.heap.size := by have h := hg.size; simpa using h
      clear hr ho hg hown0 hbA
      have K0 : Hid ((w2.setCell ⟨wr.heap.size, 6, none⟩ (.slice a2 e.2.2.1 c2)).heap[wr.heap.size]? = some (.cells #[.int .i64 e.1.id, .int .i64 e.1.kd, .string ((⟨e.1.tx.toArray⟩ : ByteArray).extract 0 j), .int .i64 e.1.st, .int .i64 e.1.rf, .int .i64 e.1.lb.u, .slice a2 e.2.2.1 c2, .int .i64 e.1.lb.ap, .int .i64 e.1.lb.d] 39)) := Lib.hid (Joins.block_setCell HG0.out _)
      have c6 : w2.cell? ⟨wr.heap.size, 6, none⟩ = some (.slice e.2.1 e.2.2.1 e.2.2.2) := by rw [Joins.cell_of_block HG0.out]; rfl
      have u6 := Joins.unfrozen_of_block HG0.out 6
      have s0 : (w2.setCell ⟨wr.heap.size, 6, none⟩ (.slice a2 e.2.2.1 c2)).cell? ⟨wr.heap.size, 0, none⟩ = some (.int .i64 e.1.id) := by rw [Joins.cell_of_block K0.out]; rfl
      have s1 : (w2.setCell ⟨wr.heap.size, 6, none⟩ (.slice a2 e.2.2.1 c2)).cell? ⟨wr.heap.size, 1, none⟩ = some (.int .i64 e.1.kd) := by rw [Joins.cell_of_block K0.out]; rfl
      have s2 : (w2.setCell ⟨wr.heap.size, 6, none⟩ (.slice a2 e.2.2.1 c2)).cell? ⟨wr.heap.size, 2, none⟩ = some (.string ((⟨e.1.tx.toArray⟩ : ByteArray).extract 0 j)) := by rw [Joins.cell_of_block K0.out]; rfl
      have s3 : (w2.setCell ⟨wr.heap.size, 6, none⟩ (.slice a2 e.2.2.1 c2)).cell? ⟨wr.heap.size, 3, none⟩ = some (.int .i64 e.1.st) := by rw [Joins.cell_of_block K0.out]; rfl
      have s4 : (w2.setCell ⟨wr.heap.size, 6, none⟩ (.slice a2 e.2.2.1 c2)).cell? ⟨wr.heap.size, 4, none⟩ = some (.int .i64 e.1.rf) := by rw [Joins.cell_of_block K0.out]; rfl
      have s5 : (w2.setCell ⟨wr.heap.size, 6, none⟩ (.slice a2 e.2.2.1 c2)).cell? ⟨wr.heap.size, 5, none⟩ = some (.int .i64 e.1.lb.u) := by rw [Joins.cell_of_block K0.out]; rfl
      have s6 : (w2.setCell ⟨wr.heap.size, 6, none⟩ (.slice a2 e.2.2.1 c2)).cell? ⟨wr.heap.size, 6, none⟩ = some (.slice a2 e.2.2.1 c2) := by rw [Joins.cell_of_block K0.out]; rfl
      have s7 : (w2.setCell ⟨wr.heap.size, 6, none⟩ (.slice a2 e.2.2.1 c2)).cell? ⟨wr.heap.size, 7, none⟩ = some (.int .i64 e.1.lb.ap) := by rw [Joins.cell_of_block K0.out]; rfl
      have s8 : (w2.setCell ⟨wr.heap.size, 6, none⟩ (.slice a2 e.2.2.1 c2)).cell? ⟨wr.heap.size, 8, none⟩ = some (.int .i64 e.1.lb.d) := by rw [Joins.cell_of_block K0.out]; rfl
      have O3 := Lib.hid (ownsRow_setCell_other O2.out (a := ⟨wr.heap.size, 6, none⟩) (fun q => by have := (hown.out.lt wr.heap.size q).2; omega) (.slice a2 e.2.2.1 c2))
      have I3 : Hid (∀ e' ∈ rs, BeIn w.heap.size (w2.setCell ⟨wr.heap.size, 6, none⟩ (.slice a2 e.2.2.1 c2)) e') := Lib.hid (fun e' h' => ⟨(I2.out e' h').1, ownsRow_setCell_other (I2.out e' h').2 (a := ⟨wr.heap.size, 6, none⟩) (fun q => by have := ((hin.out e' h').2.lt wr.heap.size q).2; omega) _⟩)
      have N3 : Hid (BeIn w.heap.size (w2.setCell ⟨wr.heap.size, 6, none⟩ (.slice a2 e.2.2.1 c2)) (shB e.1, a2, e.2.2.1, c2)) := Lib.hid ⟨bd_short HOK.out, ownsRow_setCell_other (own_mono HO.out (by have := hb.out.size; omega)) (a := ⟨wr.heap.size, 6, none⟩) (fun q => by have := (HO.out.lt wr.heap.size q).1; omega) _⟩
      have B3 := Lib.hid (B2.out.setCell (p := ⟨wr.heap.size, 6, none⟩) hb.out.size (.slice a2 e.2.2.1 c2))
      have HNW : Hid (([.int .i64 e.1.id, .int .i64 e.1.kd, .string ((⟨e.1.tx.toArray⟩ : ByteArray).extract 0 j), .int .i64 e.1.st, .int .i64 e.1.rf, .int .i64 e.1.lb.u, .slice a2 e.2.2.1 c2, .int .i64 e.1.lb.ap, .int .i64 e.1.lb.d] : List Value) = elB (shB e.1, a2, e.2.2.1, c2)) := Lib.hid (by
        simp only [elB, shB]
        rw [HJT.out, extract_mk])
      have hws : (w2.setCell ⟨wr.heap.size, 6, none⟩ (.slice a2 e.2.2.1 c2)).heap.size = w2.heap.size := by simp
      have hnews := Lib.hid (new_news (w2.setCell ⟨wr.heap.size, 6, none⟩ (.slice a2 e.2.2.1 c2)) w2.heap.size hws.symm [.int .i64 e.1.id, .int .i64 e.1.kd, .string ((⟨e.1.tx.toArray⟩ : ByteArray).extract 0 j), .int .i64 e.1.st, .int .i64 e.1.rf, .int .i64 e.1.lb.u, .slice a2 e.2.2.1 c2, .int .i64 e.1.lb.ap, .int .i64 e.1.lb.d] 39)
      have hcell1 := Lib.hid (show ∀ u ∈ ([.int .i64 e.1.id, .int .i64 e.1.kd, .string ((⟨e.1.tx.toArray⟩ : ByteArray).extract 0 j), .int .i64 e.1.st, .int .i64 e.1.rf, .int .i64 e.1.lb.u, .slice a2 e.2.2.1 c2, .int .i64 e.1.lb.ap, .int .i64 e.1.lb.d] : List Value), u.oneCell' = true by simp [Value.oneCell'])
      have hbs := hb.out.size
      clear hws B2 O2 I2 HO
      go_wp2_with (first | (at_builtin; refine Lib.wpList_append_run _ rfl _ (.tmp 31) 25 25 rfl _ _ rfl rfl _ _ HR.out ?_) | (at_builtin; refine wpList_append_own _ rfl (.tmp 35) (.tmp 37) 22 rfl w.heap.size 39 j0 _ 9 96 Tryz.underlying22 hj0 hy0 hy1 hy2 rfl (by decide) (.slice va k vc) k _ rfl (O3.out.alloc _) ⟨w2.heap.size, 0, none⟩ 1 1 [.int .i64 e.1.id, .int .i64 e.1.kd, .string ((⟨e.1.tx.toArray⟩ : ByteArray).extract 0 j), .int .i64 e.1.st, .int .i64 e.1.rf, .int .i64 e.1.lb.u, .slice a2 e.2.2.1 c2, .int .i64 e.1.lb.ap, .int .i64 e.1.lb.d] rfl rfl hnews.out hcell1.out (by unfold maxLen; omega) (by omega) (by simp; omega) ?_; intro v' w3 hown1 hg _; obtain ⟨a', c', rfl⟩ := own_slice hown1))
      have IN3 : Hid (∀ e' ∈ rs ++ [(shB e.1, a2, e.2.2.1, c2)], BeIn w.heap.size w3 e') := Lib.hid (fun e' h' => by
        have h2 : BeIn w.heap.size (w2.setCell ⟨wr.heap.size, 6, none⟩ (.slice a2 e.2.2.1 c2)) e' := by
          rcases List.mem_append.1 h' with h' | h'
          · exact I3.out e' h'
          · rw [List.mem_singleton] at h'; rw [h']; exact N3.out
        exact ⟨h2.1, own_grown (h2.2.alloc _) (O3.out.alloc _) (by decide) hg⟩)
      have B4 := Lib.hid ((B3.out.alloc (by have := B3.out.size; omega) (.cells #[.int .i64 e.1.id, .int .i64 e.1.kd, .string ((⟨e.1.tx.toArray⟩ : ByteArray).extract 0 j), .int .i64 e.1.st, .int .i64 e.1.rf, .int .i64 e.1.lb.u, .slice a2 e.2.2.1 c2, .int .i64 e.1.lb.ap, .int .i64 e.1.lb.d] 39)).grown hg (by have := B3.out.size; simp; omega) (fun q hq => (O3.out.lt q hq).1))
      have OWN3 := Lib.hid hown1
      have HBL := Lib.hid (show blks (rs ++ [(shB e.1, a2, e.2.2.1, c2)]) = (blks (es.take (k + 1))).map shB by
        rw [take_snoc HE.out]
        have h := hrs.out
        unfold blks at h ⊢
        rw [List.map_append, List.map_append, List.map_append, h]; rfl)
      clear hown1 hg hnews hcell1 s0 s1 s2 s3 s4 s5 s6 s7 s8 c6 u6
      go_wp2
      go_roundw
      case rel => exact ⟨k + 1, rs ++ [(shB e.1, a2, e.2.2.1, c2)], by omega, by omega, by rw [List.length_append, HRL.out]; rfl, by go_num, HBL, Lib.hid (by rw [List.flatMap_append]; have h := OWN3.out; rw [HNW.out] at h; simpa using h), IN3, B4⟩
      case measure => simp [intOf]; omega
    · have hes : es.take k = es.take 30 := by
        rcases Nat.lt_or_ge k 30 with h30 | h30
        · have hkn : k = n := by omega
          rw [List.take_of_length_le (by rw [HL.out]; omega), List.take_of_length_le (by rw [HL.out]; omega)]
        · rw [show k = 30 by omega]
      rw [hes] at hrs
      clear hes
      by_cases h1 : (k : Int) < n
      · have h2 : ¬ (k : Int) < 30 := by omega
        clear hlt
        go_wp2
        go_ret
        exact ⟨va, vc, rs, by rw [HRL.out]; rfl, hrs.out, by rw [HRL.out]; exact hown.out, fun _ _ _ _ hm => hin.out _ hm, hb.out⟩
      · clear hlt
        go_wp2
        go_ret
        exact ⟨va, vc, rs, by rw [HRL.out]; rfl, hrs.out, by rw [HRL.out]; exact hown.out, fun _ _ _ _ hm => hin.out _ hm, hb.out⟩
end Go.Proofs.YtelipjjjlgnjoaaGreatDoor
