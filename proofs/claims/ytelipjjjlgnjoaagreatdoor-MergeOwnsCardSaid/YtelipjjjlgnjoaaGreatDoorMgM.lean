import Derived.Test.YtelipjjjlgnjoaaGreatDoorMgL
namespace Go.Proofs.YtelipjjjlgnjoaaGreatDoor
open Go.RowKit Go.MapKept
set_option maxRecDepth 100000
set_option linter.unusedSimpArgs false
set_option linter.unusedVariables false
theorem mk_size' (t : List UInt8) : (⟨t.toArray⟩ : ByteArray).size = t.length := by simp [ByteArray.size]
def shB (b : Blk) : Blk := ⟨b.id, b.kd, b.tx.take 400, b.st, b.rf, b.lb⟩
def shE (e : BE) : BE := (shB e.1, e.2)
def shS (es : List BE) : List BE := (es.take 30).map shE
theorem shE_ok {w : World} {e : BE} (h : BeOk w e) : BeOk w (shE e) := ⟨h.1, Nat.le_trans (by simp [shE, shB]; omega) h.2.1, h.2.2⟩
theorem sh_succ {es : List BE} {k : Nat} {e : BE} (h : es[k]? = some e) : (((es.take (k + 1)).map shE).flatMap elB) = ((es.take k).map shE).flatMap elB ++ elB (shE e) := by
  obtain ⟨hk, rfl⟩ := List.getElem?_eq_some_iff.1 h
  rw [List.take_succ_eq_append_getElem hk, List.map_append, List.flatMap_append]
  simp only [List.map_cons, List.map_nil, List.flatMap_cons, List.flatMap_nil, List.append_nil]
set_option maxHeartbeats 8000000 in
theorem short_any (a : Option Addr) (n c : Nat) (es : List BE) (w : World) (h : IsBlks w a n c es) :
    Calls Tryz.prog 13 #[.slice a n c] w fun x w' => ∃ a' c', x = .returned (.slice a' (shS es).length c') ∧ IsBlks w' a' (shS es).length c' (shS es) ∧ Below w.heap.size w w' := by
  have hcm := h.2.2.1
  have hnc := h.2.1
  have HL := Lib.hid h.1
  have H := Lib.hid h
  unfold maxLen at hcm
  clear h
  obtain ⟨i0, hi, hz0, hz1, hz2⟩ := info_parts blkInfo
  go_enter Tryz.func13, Tryz.ntmps13
  go_wp2_with fail
  go_loopw [4, 3, 5] (fun i v _ wr => ∃ k : Nat, k ≤ n ∧ k ≤ 30 ∧ i = .int .i64 k ∧ Hid (wr.ownsRow w.heap.size 39 9 v k (((es.take k).map shE).flatMap elB)) ∧ Hid (Below w.heap.size w wr)) (fun i _ _ _ => n - (intOf i).toNat)
  case atStart => exact ⟨0, Nat.zero_le _, Nat.zero_le _, rfl, Lib.hid (World.ownsRow_nil _ _ _ _), Lib.hid (Below.refl _ _)⟩
  case round =>
    obtain ⟨k, hk, hk30, rfl, hown, hb⟩ := hrel
    obtain ⟨va, vc, rfl⟩ := own_slice hown.out
    by_cases hlt : k < n ∧ k < 30
    · obtain ⟨hlt1, hlt2⟩ := hlt
      obtain ⟨b, off, e, rfl, he, hok, h9⟩ := (H.out.over hb.out).at_ hlt1
      have HE := Lib.hid (sh_succ he)
      obtain ⟨p0, p1, p2, p3, p4, p5, p6, p7, p8⟩ := h9
      have g1 : (k : Int) < n := by omega
      have g2 : (k : Int) < 30 := by omega
      have htx := hok.2.1
      have hsz : (⟨e.1.tx.toArray⟩ : ByteArray).size = e.1.tx.length := mk_size' _
      unfold maxLen at htx
      clear he hok
      obtain ⟨j, hj, hjm, hjt⟩ : ∃ j : Nat, min (e.1.tx.length : Int) 400 = (j : Int) ∧ j ≤ e.1.tx.length ∧ e.1.tx.take 400 = e.1.tx.take j := by
        by_cases q : e.1.tx.length ≤ 400
        · exact ⟨e.1.tx.length, by omega, Nat.le_refl _, by rw [List.take_length, List.take_of_length_le q]⟩
        · exact ⟨400, by omega, by omega, rfl⟩
      have HJT := Lib.hid hjt
      clear hjt
      have HNW : Hid (([.int .i64 e.1.id, .int .i64 e.1.kd, .string ((⟨e.1.tx.toArray⟩ : ByteArray).extract 0 j), .int .i64 e.1.st, .int .i64 e.1.rf, .int .i64 e.1.lb.u, .slice e.2.1 e.2.2.1 e.2.2.2, .int .i64 e.1.lb.ap, .int .i64 e.1.lb.d] : List Value) = elB (shE e)) := Lib.hid (by
        simp only [elB, shE, shB]
        rw [HJT.out, extract_mk])
      have hnews := Lib.hid (new_news (wr.alloc (.cells #[.int .i64 e.1.id, .int .i64 e.1.kd, .string ((⟨e.1.tx.toArray⟩ : ByteArray).extract 0 j), .int .i64 e.1.st, .int .i64 e.1.rf, .int .i64 e.1.lb.u, .slice e.2.1 e.2.2.1 e.2.2.2, .int .i64 e.1.lb.ap, .int .i64 e.1.lb.d] 39)) (wr.heap.size + 1) (by simp) [.int .i64 e.1.id, .int .i64 e.1.kd, .string ((⟨e.1.tx.toArray⟩ : ByteArray).extract 0 j), .int .i64 e.1.st, .int .i64 e.1.rf, .int .i64 e.1.lb.u, .slice e.2.1 e.2.2.1 e.2.2.2, .int .i64 e.1.lb.ap, .int .i64 e.1.lb.d] 39)
      have hcell1 := Lib.hid (show ∀ u ∈ ([.int .i64 e.1.id, .int .i64 e.1.kd, .string ((⟨e.1.tx.toArray⟩ : ByteArray).extract 0 j), .int .i64 e.1.st, .int .i64 e.1.rf, .int .i64 e.1.lb.u, .slice e.2.1 e.2.2.1 e.2.2.2, .int .i64 e.1.lb.ap, .int .i64 e.1.lb.d] : List Value), u.oneCell' = true by simp [Value.oneCell'])
      have hb0 := hb.out.size
      go_wp2_with (at_builtin; refine wpList_append_own _ rfl (.tmp 28) (.tmp 30) 22 rfl w.heap.size 39 i0 _ 9 96 Tryz.underlying22 hi hz0 hz1 hz2 rfl (by decide) _ k _ rfl ((hown.out.alloc _).alloc _) ⟨wr.heap.size + 1, 0, none⟩ 1 1 [.int .i64 e.1.id, .int .i64 e.1.kd, .string ((⟨e.1.tx.toArray⟩ : ByteArray).extract 0 j), .int .i64 e.1.st, .int .i64 e.1.rf, .int .i64 e.1.lb.u, .slice e.2.1 e.2.2.1 e.2.2.2, .int .i64 e.1.lb.ap, .int .i64 e.1.lb.d] rfl rfl hnews.out hcell1.out (by unfold maxLen; omega) (by omega) (by simp; omega) ?_; intro v' w3 hown1 hg _; obtain ⟨a', c', rfl⟩ := own_slice hown1)
      have hRr : ∀ q, Value.ownBlock (.slice va k vc) = some q → w.heap.size ≤ q := fun q hq => (hown.out.lt _ hq).1
      have B3 := Lib.hid (((hb.out.alloc hb.out.size (.cells #[.int .i64 e.1.id, .int .i64 e.1.kd, .string ((⟨e.1.tx.toArray⟩ : ByteArray).extract 0 j), .int .i64 e.1.st, .int .i64 e.1.rf, .int .i64 e.1.lb.u, .slice e.2.1 e.2.2.1 e.2.2.2, .int .i64 e.1.lb.ap, .int .i64 e.1.lb.d] 39)).alloc (by simp; omega) (.cells #[.int .i64 e.1.id, .int .i64 e.1.kd, .string ((⟨e.1.tx.toArray⟩ : ByteArray).extract 0 j), .int .i64 e.1.st, .int .i64 e.1.rf, .int .i64 e.1.lb.u, .slice e.2.1 e.2.2.1 e.2.2.2, .int .i64 e.1.lb.ap, .int .i64 e.1.lb.d] 39)).grown hg (by simp; omega) hRr)
      have OWN3 := Lib.hid hown1
      clear hown1 hg hRr hb0 hnews hcell1
      go_wp2
      go_roundw
      case rel => exact ⟨k + 1, by omega, by omega, by go_num, Lib.hid (by rw [HE.out, ← HNW.out]; exact OWN3.out), B3⟩
      case measure => simp [intOf]; omega
    · have hlen : (shS es).length = k := by
        simp only [shS, List.length_map, List.length_take, HL.out]; omega
      have hes : (es.take k).map shE = shS es := by
        unfold shS
        rcases Nat.lt_or_ge k 30 with h30 | h30
        · have hkn : k = n := by omega
          rw [List.take_of_length_le (by rw [HL.out]; omega), List.take_of_length_le (by rw [HL.out]; omega)]
        · rw [show k = 30 by omega]
      have HI := Lib.hid (blks_of_own (es := shS es) (by rw [← hes]; exact hown.out) (fun e he => by
        obtain ⟨e', he', rfl⟩ := List.mem_map.1 he
        exact shE_ok ((H.out.over hb.out).2.2.2.1 e' (List.mem_of_mem_take he'))))
      have HLEN := Lib.hid hlen
      clear hes hlen
      by_cases h1 : (k : Int) < n
      · have h2 : ¬ (k : Int) < 30 := by omega
        clear hlt
        go_wp2
        go_ret
        exact ⟨va, vc, by rw [HLEN.out]; rfl, by rw [HLEN.out]; exact HI.out, hb.out⟩
      · clear hlt
        go_wp2
        go_ret
        exact ⟨va, vc, by rw [HLEN.out]; rfl, by rw [HLEN.out]; exact HI.out, hb.out⟩
end Go.Proofs.YtelipjjjlgnjoaaGreatDoor
