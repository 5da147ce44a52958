/- The law's helper few, once more: where its lists lie. Lists of facts: as an argument; put together by append. FactLists: the walk of the statement's text. -/
import Derived.Test.YtlhcckjfgpcohaaGreatDoorU4
import Derived.Test.YtlhcckjfgpcohaaGreatDoorU3
import Derived.Test.YtlhcckjfgpcohaaGreatDoorBlkO
import Derived.Laws.AppendOwnNone
import Derived.Test.YtlhcckjfgpcohaaGreatDoorV5
import Derived.Test.YtlhcckjfgpcohaaGreatDoorU6
import Derived.Test.YtlhcckjfgpcohaaGreatDoorUW
import Derived.Deep.RegionHeld3
import Derived.Deep.DeepCutAuto
import Derived.Deep.CutBlock
namespace Go.Proofs.YtlhcckjfgpcohaaGreatDoor
open Go.RowKit Go.MapKept
set_option maxRecDepth 100000
set_option linter.unusedSimpArgs false
set_option linter.unusedVariables false
theorem getD_take6 (l : List Int) (k i : Nat) (d : Int) (h : i < k) : (l.take k).getD i d = l.getD i d := by
  simp [List.getD, List.getElem?_take, h]
theorem ints_take6 {w : World} {a : Option Addr} {n c : Nat} {zs : List Int} (h : IsInts .i64 w a n c zs) (k : Nat) (hk : k ≤ n) : IsInts .i64 w a k c (zs.take k) := by
  obtain ⟨h1, h2, h3, h4, h5⟩ := h
  refine ⟨by simp; omega, by omega, h3, fun z hz => h4 z (List.mem_of_mem_take hz), ?_⟩
  rcases h5 with h5 | ⟨b, off, rfl, hc⟩
  · left; omega
  · refine .inr ⟨b, off, rfl, fun i hi => ?_⟩
    rw [hc i (by omega), getD_take6 _ _ _ _ hi]
theorem IsTp.take {w : World} {a : Option Addr} {n c : Nat} {l : List (List UInt8)} (h : IsTp w a n c l) (k : Nat) (hk : k ≤ n) : IsTp w a k c (l.take k) := by
  obtain ⟨h1, h2, h3, h4, h5⟩ := h
  refine ⟨by simp; omega, by omega, h3, fun z hz => h4 z (List.mem_of_mem_take hz), ?_⟩
  rcases h5 with h5 | ⟨b, off, e, hc⟩
  · left; omega
  · refine .inr ⟨b, off, e, fun i s hs => hc i s ?_⟩
    rw [List.getElem?_take] at hs
    split at hs
    · exact hs
    · cases hs
/-- The least of a length and a bound. -/
theorem cut_at {α : Type} (l : List α) (n : Nat) (hl : l.length = n) (c : Nat) : ∃ j : Nat, min (n : Int) (c : Int) = (j : Int) ∧ j ≤ n ∧ j ≤ c ∧ l.take c = l.take j := by
  by_cases q : n ≤ c
  · exact ⟨n, by omega, Nat.le_refl _, q, by rw [← hl, List.take_length, List.take_of_length_le (by omega)]⟩
  · exact ⟨c, by omega, by omega, Nat.le_refl _, rfl⟩
def fewE (e : BE) : BE := (fewB e.1, e.2.1, min e.2.2.1 70, e.2.2.2)
theorem fewE_ok {w : World} {e : BE} (h : BeOk w e) : BeOk w (fewE e) := by
  obtain ⟨⟨h1, h2⟩, h3, h4⟩ := h
  have hl := h1.1
  refine ⟨⟨?_, h2⟩, Nat.le_trans (by simp [fewE, fewB]; omega) h3, h4⟩
  have := ints_take6 h1 (min e.2.2.1 70) (Nat.min_le_left _ _)
  have e2 : e.1.lb.af.take (min e.2.2.1 70) = e.1.lb.af.take 70 := by
    rw [← hl]
    rcases Nat.le_total e.1.lb.af.length 70 with q | q
    · rw [Nat.min_eq_left q, List.take_length, List.take_of_length_le q]
    · rw [Nat.min_eq_right q]
  rw [e2] at this
  exact this
theorem few_succ {es : List BE} {k : Nat} {e : BE} (h : es[k]? = some e) : (((es.take (k + 1)).map fewE).flatMap elB) = ((es.take k).map fewE).flatMap elB ++ elB (fewE e) := by
  obtain ⟨hk, rfl⟩ := List.getElem?_eq_some_iff.1 h
  rw [List.take_succ_eq_append_getElem hk, List.map_append, List.flatMap_append]
  simp only [List.map_cons, List.map_nil, List.flatMap_cons, List.flatMap_nil, List.append_nil]
/-- The lists of e lie below the first world's end, or in what was made between w and w'. -/
def FeFw (w0 w w' : World) (e : FE) : Prop := ∀ w2 : World, Below w0.heap.size w0 w2 → (∀ k, w.heap.size ≤ k → k < w'.heap.size → w2.heap[k]? = w'.heap[k]?) → FeOk w2 e
theorem own_agree {w w2 : World} {base : Nat} {e : TypeId} {size : Nat} {v : Value} {n : Nat} {xs : List Value} (h : w.ownsRow base e size v n xs) (hk : ∀ k, base ≤ k → k < w.heap.size → w2.heap[k]? = w.heap[k]?) : w2.ownsRow base e size v n xs := by
  refine ⟨h.1, ?_⟩
  rcases h.2 with hn | ⟨g, cap, cur, hv, hb, hgg, rest⟩
  · exact .inl hn
  · exact .inr ⟨g, cap, cur, hv, hb, (hk g hb (Array.getElem?_eq_some_iff.1 hgg).1).trans hgg, rest⟩
set_option maxHeartbeats 16000000 in
theorem few5b (e : FE) (w0 w : World) (h0 : FeOk w0 e) (hB0 : Below w0.heap.size w0 w) : Calls Tryz.prog 11 #[aggF e] w fun r w' => ∃ e', r = .returned (aggF e') ∧ e'.f = fewF e.f ∧ FeFw w0 w w' e' ∧ Below w.heap.size w w' := by
  obtain ⟨f, ta, tn, tc, ba, bn, bc, la, ln, lc⟩ := e
  obtain ⟨h10, h20, h30, hints, hstrs⟩ := h0
  obtain ⟨es, hes, hbl0⟩ := h20
  simp only at h10 hes hbl0 h30 hints hstrs
  have h1 := h10.over hB0
  have hbl := hbl0.over hB0
  have h3 := h30.over hB0
  obtain ⟨i0, hi, hz0, hz1, hz2⟩ := info_parts blkInfo
  have htc := h1.2.1
  have htm := h1.2.2.1
  have hbc := hbl.2.1
  have hbm := hbl.2.2.1
  have hlc := h3.1.2.1
  have hlm := h3.1.2.2.1
  obtain ⟨jt, mt, kt, k6, ht⟩ := cut_at f.tp tn h1.1 6
  obtain ⟨jb, mb, kb, k26, hb⟩ := cut_at es bn hbl.1 26
  obtain ⟨jl, ml, kl, k70, hl⟩ := cut_at f.lb.af ln h3.1.1 70
  obtain ⟨ji, mi, ki, k400, hti⟩ := cut_at f.ti f.ti.length rfl 400
  obtain ⟨jx, mx, kx, k1200, htx⟩ := cut_at f.tx f.tx.length rfl 1200
  unfold maxLen at htm hbm hlm
  have zti := mk_size' f.ti
  have ztx := mk_size' f.tx
  have lti := hstrs.2.1
  have ltx := hstrs.2.2.2.1
  unfold maxLen at lti ltx
  have HT0 := Lib.hid (h10.take jt kt)
  have HB0 := Lib.hid (hbl0.take kb)
  have HL0 := Lib.hid (ints_take6 h30.1 jl kl)
  have HT := Lib.hid (And.intro (h1.take jt kt) ht)
  have HB := Lib.hid (hbl.take kb)
  have HL := Lib.hid (And.intro (ints_take6 h3.1 jl kl) hl)
  have HLB := Lib.hid h3.2
  have HES := Lib.hid hes
  have HB26 := Lib.hid hb
  have HTI := Lib.hid hti
  have HTX := Lib.hid htx
  have HIS := Lib.hid (And.intro hints hstrs)
  have HJB := Lib.hid (show (es.take jb).length = jb by rw [List.length_take, hbl.1]; omega)
  obtain ⟨fs, hfs⟩ : ∃ fs, es.take jb = fs := ⟨_, rfl⟩
  rw [hfs] at HB HB26 HJB HB0
  have HFS := Lib.hid hfs
  clear h1 h3 hbl ht hb hl hes hti htx hints hstrs hfs h10 h30 hbl0 hB0
  push_cast at mt mb ml mi mx
  show Calls _ _ #[.agg #[.int .i64 f.n, .int .i64 f.tm, .int .i64 f.kd, .int .i64 f.st, .string ⟨f.lg.toArray⟩, .int .i64 f.rv, .int .i64 f.bs, .string ⟨f.ti.toArray⟩, .string ⟨f.au.toArray⟩, .slice ta tn tc, .slice ba bn bc, .int .i64 f.lb.u, .slice la ln lc, .int .i64 f.lb.ap, .int .i64 f.lb.d, .int .i64 f.ed, .int .i64 f.bk, .int .i64 f.se, .string ⟨f.tx.toArray⟩, .string ⟨f.nm.toArray⟩, .int .i64 f.pt, .int .i64 f.cl, .int .i64 f.un]] w _
  go_enter Tryz.func11, Tryz.ntmps11
  go_wp2_with fail
  obtain ⟨Bf, hBf⟩ : ∃ Bf, w.heap.size = Bf := ⟨_, rfl⟩
  obtain ⟨W0, hW0⟩ : ∃ W0, W0 = ((w.alloc (.cells #[.int .i64 f.n, .int .i64 f.tm, .int .i64 f.kd, .int .i64 f.st, .string ⟨f.lg.toArray⟩, .int .i64 f.rv, .int .i64 f.bs, .string ⟨f.ti.toArray⟩, .string ⟨f.au.toArray⟩, .slice ta jt tc, .slice ba jb bc, .int .i64 f.lb.u, .slice la jl lc, .int .i64 f.lb.ap, .int .i64 f.lb.d, .int .i64 f.ed, .int .i64 f.bk, .int .i64 f.se, .string ⟨f.tx.toArray⟩, .string ⟨f.nm.toArray⟩, .int .i64 f.pt, .int .i64 f.cl, .int .i64 f.un] 28)).alloc (.cells #[.int .i64 0, .int .i64 0, .int .i64 0, .int .i64 0, .string ⟨#[]⟩, .int .i64 0, .int .i64 0, .string ⟨#[]⟩, .string ⟨#[]⟩, .slice none 0 0, .slice none 0 0, .int .i64 0, .slice none 0 0, .int .i64 0, .int .i64 0, .int .i64 0, .int .i64 0, .int .i64 0, .string ⟨#[]⟩, .string ⟨#[]⟩, .int .i64 0, .int .i64 0, .int .i64 0] 28)) := ⟨_, rfl⟩
  have F0 : Hid (FcAt W0 Bf ⟨{ f with tp := f.tp.take jt, bl := blks fs, lb := ⟨f.lb.u, f.lb.af.take jl, f.lb.ap, f.lb.d⟩ }, ta, jt, tc, ba, jb, bc, la, jl, lc⟩) := Lib.hid (by
    rw [hW0, ← hBf]
    exact blockOver (below_alloc _ _) (heap_alloc_new w _))
  have R0 : Hid (FcAt W0 (Bf + 1) zE) := Lib.hid (by
    rw [hW0, ← hBf]
    have := heap_alloc_new (w.alloc (.cells #[.int .i64 f.n, .int .i64 f.tm, .int .i64 f.kd, .int .i64 f.st, .string ⟨f.lg.toArray⟩, .int .i64 f.rv, .int .i64 f.bs, .string ⟨f.ti.toArray⟩, .string ⟨f.au.toArray⟩, .slice ta jt tc, .slice ba jb bc, .int .i64 f.lb.u, .slice la jl lc, .int .i64 f.lb.ap, .int .i64 f.lb.d, .int .i64 f.ed, .int .i64 f.bk, .int .i64 f.se, .string ⟨f.tx.toArray⟩, .string ⟨f.nm.toArray⟩, .int .i64 f.pt, .int .i64 f.cl, .int .i64 f.un] 28)) (.cells #[.int .i64 0, .int .i64 0, .int .i64 0, .int .i64 0, .string ⟨#[]⟩, .int .i64 0, .int .i64 0, .string ⟨#[]⟩, .string ⟨#[]⟩, .slice none 0 0, .slice none 0 0, .int .i64 0, .slice none 0 0, .int .i64 0, .int .i64 0, .int .i64 0, .int .i64 0, .int .i64 0, .string ⟨#[]⟩, .string ⟨#[]⟩, .int .i64 0, .int .i64 0, .int .i64 0] 28)
    rw [show (w.alloc (.cells #[.int .i64 f.n, .int .i64 f.tm, .int .i64 f.kd, .int .i64 f.st, .string ⟨f.lg.toArray⟩, .int .i64 f.rv, .int .i64 f.bs, .string ⟨f.ti.toArray⟩, .string ⟨f.au.toArray⟩, .slice ta jt tc, .slice ba jb bc, .int .i64 f.lb.u, .slice la jl lc, .int .i64 f.lb.ap, .int .i64 f.lb.d, .int .i64 f.ed, .int .i64 f.bk, .int .i64 f.se, .string ⟨f.tx.toArray⟩, .string ⟨f.nm.toArray⟩, .int .i64 f.pt, .int .i64 f.cl, .int .i64 f.un] 28)).heap.size = w.heap.size + 1 by simp] at this
    exact this)
  have B0 : Hid (Below w.heap.size w W0) := Lib.hid (by rw [hW0]; exact bel2 (below_alloc w _) (below_alloc _ _))
  have hsz0 : Hid (W0.heap.size = Bf + 2) := Lib.hid (by rw [hW0, ← hBf]; simp)
  rw [← hW0]
  have HBW := Lib.hid (HB.out.over B0.out)
  rw [hBf]
  have HBF := Lib.hid hBf
  clear hW0 hBf
  go_loopw [4, 3, 5] (fun i v _ wr => ∃ k : Nat, k ≤ jb ∧ i = .int .i64 k ∧ Hid (wr.ownsRow W0.heap.size 49 9 v k (((fs.take k).map fewE).flatMap elB)) ∧ Hid (Below W0.heap.size W0 wr)) (fun i _ _ _ => jb - (intOf i).toNat)
  case atStart => exact ⟨0, Nat.zero_le _, rfl, Lib.hid (World.ownsRow_nil _ _ _ _), Lib.hid (Below.refl _ _)⟩
  case round =>
    obtain ⟨k, hk, rfl, hown, hb⟩ := hrel
    obtain ⟨va, vc, rfl⟩ := own_slice hown.out
    have FR := Lib.hid (F0.out.over hb.out)
    have c10 : wr.cell? ⟨Bf, 10, none⟩ = some (.slice ba jb bc) := FR.out.cell 10
    by_cases hlt : k < jb
    · obtain ⟨b, off, x, rfl, he, hok, h9⟩ := (HBW.out.over hb.out).at_ hlt
      have HE := Lib.hid (few_succ he)
      obtain ⟨p0, p1, p2, p3, p4, p5, p6, p7, p8⟩ := h9
      have g1 : (k : Int) < jb := by omega
      have htx := hok.2.1
      have hsz : (⟨x.1.tx.toArray⟩ : ByteArray).size = x.1.tx.length := mk_size' _
      have hxc := hok.1.1.2.1
      have hxm := hok.1.1.2.2.1
      have hxl := hok.1.1.1
      unfold maxLen at htx hxm
      clear he hok
      obtain ⟨j, hj, hjm, hj4, hjt⟩ := cut_at x.1.tx x.1.tx.length rfl 400
      obtain ⟨m, hm, hmm, hm7, hmt⟩ := cut_at x.1.lb.af x.2.2.1 hxl 70
      push_cast at hj hm
      have HMM := Lib.hid (show min x.2.2.1 70 = m by omega)
      have HJT := Lib.hid hjt
      clear hjt hmt hxl
      have HNW : Hid (([.int .i64 x.1.id, .int .i64 x.1.kd, .string ((⟨x.1.tx.toArray⟩ : ByteArray).extract 0 j), .int .i64 x.1.st, .int .i64 x.1.rf, .int .i64 x.1.lb.u, .slice x.2.1 m x.2.2.2, .int .i64 x.1.lb.ap, .int .i64 x.1.lb.d] : List Value) = elB (fewE x)) := Lib.hid (by
        simp only [elB, fewE, fewB, fewL]
        rw [HMM.out, HJT.out, extract_mk])
      have hnews := Lib.hid (new_news (wr.alloc (.cells #[.int .i64 x.1.id, .int .i64 x.1.kd, .string ((⟨x.1.tx.toArray⟩ : ByteArray).extract 0 j), .int .i64 x.1.st, .int .i64 x.1.rf, .int .i64 x.1.lb.u, .slice x.2.1 m x.2.2.2, .int .i64 x.1.lb.ap, .int .i64 x.1.lb.d] 49)) (wr.heap.size + 1) (by simp) [.int .i64 x.1.id, .int .i64 x.1.kd, .string ((⟨x.1.tx.toArray⟩ : ByteArray).extract 0 j), .int .i64 x.1.st, .int .i64 x.1.rf, .int .i64 x.1.lb.u, .slice x.2.1 m x.2.2.2, .int .i64 x.1.lb.ap, .int .i64 x.1.lb.d] 49)
      have hcell1 := Lib.hid (show ∀ u ∈ ([.int .i64 x.1.id, .int .i64 x.1.kd, .string ((⟨x.1.tx.toArray⟩ : ByteArray).extract 0 j), .int .i64 x.1.st, .int .i64 x.1.rf, .int .i64 x.1.lb.u, .slice x.2.1 m x.2.2.2, .int .i64 x.1.lb.ap, .int .i64 x.1.lb.d] : List Value), u.oneCell' = true by simp [Value.oneCell'])
      have hb0 := hb.out.size
      go_wp2_with (at_builtin; refine wpList_append_own _ rfl (.tmp 64) (.tmp 66) 23 rfl W0.heap.size 49 i0 _ 9 96 Tryz.underlying23 hi hz0 hz1 hz2 rfl (by decide) _ k _ rfl ((hown.out.alloc _).alloc _) ⟨wr.heap.size + 1, 0, none⟩ 1 1 [.int .i64 x.1.id, .int .i64 x.1.kd, .string ((⟨x.1.tx.toArray⟩ : ByteArray).extract 0 j), .int .i64 x.1.st, .int .i64 x.1.rf, .int .i64 x.1.lb.u, .slice x.2.1 m x.2.2.2, .int .i64 x.1.lb.ap, .int .i64 x.1.lb.d] rfl rfl hnews.out hcell1.out (by unfold maxLen; omega) (by omega) (by simp; omega) ?_; intro v' w3 hown1 hg _; obtain ⟨a', c', rfl⟩ := own_slice hown1)
      have hRr : ∀ q, Value.ownBlock (.slice va k vc) = some q → W0.heap.size ≤ q := fun q hq => (hown.out.lt _ hq).1
      have B3 := Lib.hid (((hb.out.alloc hb.out.size (.cells #[.int .i64 x.1.id, .int .i64 x.1.kd, .string ((⟨x.1.tx.toArray⟩ : ByteArray).extract 0 j), .int .i64 x.1.st, .int .i64 x.1.rf, .int .i64 x.1.lb.u, .slice x.2.1 m x.2.2.2, .int .i64 x.1.lb.ap, .int .i64 x.1.lb.d] 49)).alloc (by simp; omega) (.cells #[.int .i64 x.1.id, .int .i64 x.1.kd, .string ((⟨x.1.tx.toArray⟩ : ByteArray).extract 0 j), .int .i64 x.1.st, .int .i64 x.1.rf, .int .i64 x.1.lb.u, .slice x.2.1 m x.2.2.2, .int .i64 x.1.lb.ap, .int .i64 x.1.lb.d] 49)).grown hg (by simp; omega) hRr)
      have OWN3 := Lib.hid hown1
      clear hown1 hg hRr hb0 hnews hcell1
      go_wp2
      go_roundw
      case rel => exact ⟨k + 1, by omega, by go_num, Lib.hid (by rw [HE.out, ← HNW.out]; exact OWN3.out), B3⟩
      case measure => simp [intOf]; omega
    · obtain rfl : jb = k := by omega
      have c7 : wr.cell? ⟨Bf, 7, none⟩ = some (.string ⟨f.ti.toArray⟩) := FR.out.cell 7
      have c18 : wr.cell? ⟨Bf, 18, none⟩ = some (.string ⟨f.tx.toArray⟩) := FR.out.cell 18
      have f7 := Joins.unfrozen_of_block FR.out 7
      have f10 := Joins.unfrozen_of_block FR.out 10
      have f18 := Joins.unfrozen_of_block FR.out 18
      have GZ : Hid (FcAt (((wr.setCell ⟨Bf, 10, none⟩ (.slice va jb vc)).setCell ⟨Bf, 7, none⟩ (.string ((⟨f.ti.toArray⟩ : ByteArray).extract 0 ji))).setCell ⟨Bf, 18, none⟩ (.string ((⟨f.tx.toArray⟩ : ByteArray).extract 0 jx))) Bf (⟨{ f with tp := f.tp.take jt, bl := blks (fs.map fewE), lb := ⟨f.lb.u, f.lb.af.take jl, f.lb.ap, f.lb.d⟩, ti := f.ti.take ji, tx := f.tx.take jx }, ta, jt, tc, va, jb, vc, la, jl, lc⟩ : FE)) := Lib.hid (by
        refine FcAt.set (e := ⟨{ f with tp := f.tp.take jt, bl := blks (fs.map fewE), lb := ⟨f.lb.u, f.lb.af.take jl, f.lb.ap, f.lb.d⟩, ti := f.ti.take ji }, ta, jt, tc, va, jb, vc, la, jl, lc⟩) ?_ 18 _ (by rw [extract_mk]; rfl)
        refine FcAt.set (e := ⟨{ f with tp := f.tp.take jt, bl := blks (fs.map fewE), lb := ⟨f.lb.u, f.lb.af.take jl, f.lb.ap, f.lb.d⟩ }, ta, jt, tc, va, jb, vc, la, jl, lc⟩) ?_ 7 _ (by rw [extract_mk]; rfl)
        exact FR.out.set 10 _ rfl)
      have RZ : Hid (FcAt (((wr.setCell ⟨Bf, 10, none⟩ (.slice va jb vc)).setCell ⟨Bf, 7, none⟩ (.string ((⟨f.ti.toArray⟩ : ByteArray).extract 0 ji))).setCell ⟨Bf, 18, none⟩ (.string ((⟨f.tx.toArray⟩ : ByteArray).extract 0 jx))) (Bf + 1) zE) := Lib.hid ((((R0.out.over hb.out).other (by omega)).other (by omega)).other (by omega))
      have KZ : Hid (Kp (RG Bf (Bf + 1)) wr ((((wr.setCell ⟨Bf, 10, none⟩ (.slice va jb vc)).setCell ⟨Bf, 7, none⟩ (.string ((⟨f.ti.toArray⟩ : ByteArray).extract 0 ji))).setCell ⟨Bf, 18, none⟩ (.string ((⟨f.tx.toArray⟩ : ByteArray).extract 0 jx))).setCells (Bf + 1) 0 (elF (⟨{ f with tp := f.tp.take jt, bl := blks (fs.map fewE), lb := ⟨f.lb.u, f.lb.af.take jl, f.lb.ap, f.lb.d⟩, ti := f.ti.take ji, tx := f.tx.take jx }, ta, jt, tc, va, jb, vc, la, jl, lc⟩ : FE)))) := Lib.hid (Kp.setCells (.inr rfl) _ _ _ ((((Kp.refl _ _).setCell (.inl rfl) _ _).setCell (.inl rfl) _ _).setCell (.inl rfl) _ _))
      obtain ⟨e2, he2⟩ : ∃ e2 : FE, e2 = (⟨{ f with tp := f.tp.take jt, bl := blks (fs.map fewE), lb := ⟨f.lb.u, f.lb.af.take jl, f.lb.ap, f.lb.d⟩, ti := f.ti.take ji, tx := f.tx.take jx }, ta, jt, tc, va, jb, vc, la, jl, lc⟩ : FE) := ⟨_, rfl⟩
      have GZ2 : Hid (FcAt (((wr.setCell ⟨Bf, 10, none⟩ (.slice va jb vc)).setCell ⟨Bf, 7, none⟩ (.string ((⟨f.ti.toArray⟩ : ByteArray).extract 0 ji))).setCell ⟨Bf, 18, none⟩ (.string ((⟨f.tx.toArray⟩ : ByteArray).extract 0 jx))) Bf e2) := by subst he2; exact GZ
      have KZ2 : Hid (Kp (RG Bf (Bf + 1)) wr ((((wr.setCell ⟨Bf, 10, none⟩ (.slice va jb vc)).setCell ⟨Bf, 7, none⟩ (.string ((⟨f.ti.toArray⟩ : ByteArray).extract 0 ji))).setCell ⟨Bf, 18, none⟩ (.string ((⟨f.tx.toArray⟩ : ByteArray).extract 0 jx))).setCells (Bf + 1) 0 (elF e2))) := by subst he2; exact KZ
      have HE2 := Lib.hid he2
      have RT : Hid ((((wr.setCell ⟨Bf, 10, none⟩ (.slice va jb vc)).setCell ⟨Bf, 7, none⟩ (.string ((⟨f.ti.toArray⟩ : ByteArray).extract 0 ji))).setCell ⟨Bf, 18, none⟩ (.string ((⟨f.tx.toArray⟩ : ByteArray).extract 0 jx))).there (Bf + 1) 0 23) := Lib.hid RZ.out.there
      have RR : Hid (((((wr.setCell ⟨Bf, 10, none⟩ (.slice va jb vc)).setCell ⟨Bf, 7, none⟩ (.string ((⟨f.ti.toArray⟩ : ByteArray).extract 0 ji))).setCell ⟨Bf, 18, none⟩ (.string ((⟨f.tx.toArray⟩ : ByteArray).extract 0 jx))).setCells (Bf + 1) 0 (elF e2)).rangeAt (Bf + 1) 0 (elF e2)) := Lib.hid (World.rangeAt_setCells_same _ _ _ _ (by simpa [elF] using RT.out))
      clear he2 GZ KZ RZ
      go_wp2_with (first | (refine wpList_load28 _ Bf e2 ?F rfl rfl rfl ?_; (case F => exact GZ2.out)) | (refine wpList_storeK (Bf + 1) e2 ?T _ _ rfl rfl rfl rfl ?_; (case T => exact RT.out)))
      have hbz : Below w.heap.size w ((((wr.setCell ⟨Bf, 10, none⟩ (.slice va jb vc)).setCell ⟨Bf, 7, none⟩ (.string ((⟨f.ti.toArray⟩ : ByteArray).extract 0 ji))).setCell ⟨Bf, 18, none⟩ (.string ((⟨f.tx.toArray⟩ : ByteArray).extract 0 jx))).setCells (Bf + 1) 0 (elF e2)) := by
        have h1 := KZ2.out.below (B := Bf) (by have := hb.out.size; have := hsz0.out; omega) (by rintro q (rfl | rfl) <;> omega)
        have h2 : Below Bf W0 wr := hb.out.mono (by have := hsz0.out; omega)
        have h3 : Below Bf w W0 := by have := B0.out; rw [HBF.out] at this; exact this
        rw [HBF.out]
        exact (h3.trans h2).trans h1
      have htk : fs.take jb = fs := by rw [← HJB.out, List.take_length]
      have how := KZ2.out.own (base := W0.heap.size) (by have := hsz0.out; rintro q (rfl | rfl) <;> omega) hown.out
      rw [htk] at how
      refine ⟨rfl, aggF e2, results_one (k := 2) (t1 := 28) (by kernel_rfl) (load_fact RR.out) (by rfl), e2, rfl, ?_, ?_, hbz⟩
      · rw [HE2.out]
        unfold fewF
        simp only
        have q1 : blks (fs.map fewE) = (f.bl.take 26).map fewB := by
          rw [← HES.out, ← HB26.out]
          simp only [blks, List.map_take, List.map_map]
          rfl
        rw [HT.out.2, q1, HTI.out, HTX.out]
        unfold fewL
        rw [HL.out.2]
      · revert hbz how
        generalize ((((wr.setCell ⟨Bf, 10, none⟩ (.slice va jb vc)).setCell ⟨Bf, 7, none⟩ (.string ((⟨f.ti.toArray⟩ : ByteArray).extract 0 ji))).setCell ⟨Bf, 18, none⟩ (.string ((⟨f.tx.toArray⟩ : ByteArray).extract 0 jx))).setCells (Bf + 1) 0 (elF e2)) = Wz
        intro hbz how
        rw [HE2.out]
        have s2' : (f.ti.take ji).length ≤ maxLen := by rw [List.length_take]; exact Nat.le_trans (Nat.min_le_right _ _) HIS.out.2.2.1
        have s4' : (f.tx.take jx).length ≤ maxLen := by rw [List.length_take]; exact Nat.le_trans (Nat.min_le_right _ _) HIS.out.2.2.2.2.1
        obtain ⟨⟨i1, i2, i3, i4, i5, i6, i7, i8, i9, i10, i11, i12⟩, ⟨s1, s2, s3, s4, s5⟩⟩ := HIS.out
        intro w2 hw2 hk2
        have how2 := own_agree how (fun k h1 h2 => hk2 k (by have h3 := hsz0.out; have h4 := HBF.out; omega) h2)
        refine ⟨HT0.out.over hw2, ⟨fs.map fewE, rfl, blks_of_own how2 (fun y hy => ?_)⟩, ⟨HL0.out.over hw2, HLB.out⟩, ⟨i1, i2, i3, i4, i5, i6, i7, i8, i9, i10, i11, i12⟩, ⟨s1, s2', s3, s4', s5⟩⟩
        obtain ⟨x, hx, rfl⟩ := List.mem_map.1 hy
        exact (fewE_ok (HB0.out.2.2.2.1 x hx)).over hw2
end Go.Proofs.YtlhcckjfgpcohaaGreatDoor
namespace Go.Proofs.YtlhcckjfgpcohaaGreatDoor
open Go.ChangeShapes Go.WideShapes Go.ChangeAt Go.RowKit Go.Deep Go.MapKept
set_option maxRecDepth 100000
set_option linter.unusedSimpArgs false
set_option linter.unusedVariables false
theorem flat23_len : ∀ es : List FE, (es.flatMap elF).length = es.length * 23
  | [] => rfl
  | e :: es => by
    rw [List.flatMap_cons, List.length_append, flat23_len es, List.length_cons]
    simp [elF]; omega
theorem flat23_at : ∀ (es : List FE) (k : Nat) (e : FE), es[k]? = some e → ∀ (j : Nat) (v : Value), (elF e)[j]? = some v → (es.flatMap elF)[k * 23 + j]? = some v
  | [], k, e, h, j, v, hv => by simp at h
  | x :: es, 0, e, h, j, v, hv => by
    simp only [List.getElem?_cons_zero, Option.some.injEq] at h
    subst h
    rw [List.flatMap_cons, List.getElem?_append_left (by have := (List.getElem?_eq_some_iff.1 hv).1; omega), Nat.zero_mul, Nat.zero_add]
    exact hv
  | x :: es, k + 1, e, h, j, v, hv => by
    have h9 : (elF x).length = 23 := by simp [elF]
    rw [List.flatMap_cons, List.getElem?_append_right (by omega), h9, show (k + 1) * 23 + j - 23 = k * 23 + j by omega]
    exact flat23_at es k e (by simpa using h) j v hv
theorem factInfo : (Tryz.prog.info? 28).map (fun i => (i.zero, i.size, i.bytes)) = some (some (.agg (elF zE).toArray), 23, 272) := by kernel_rfl
theorem elF_cell (e : FE) : ∀ u ∈ elF e, u.oneCell' = true := by simp [elF, Value.oneCell']
section
variable {H : Type} {enc : TypeId × Value → H} {w : World} {b0 base : Nat} {spare : Nat → Bool} {held : Bool}
theorem open_facts {r : Reach} {v : Value} {d : DataW H} {p : List MemPlace} (hv : Value.okWide Tryz.prog w r b0 45 v) (h : DataW.Trod enc Tryz.prog w base spare held 45 v d p) :
    ∃ (a : Option Addr) (n c : Nat) (es : List FE), v = .slice a n c ∧ IsFs w a n c es := by
  obtain ⟨a, n, c, rfl⟩ := WideShapes.okWide_slice Tryz.underlying45 hv
  obtain ⟨fuel, hf⟩ := h
  refine ⟨a, n, c, ?_⟩
  rcases open_slice Tryz.underlying45 hf with ⟨h1, _⟩ | ⟨a1, n1, c1, m, fu, D, Pl, h1, _, hn, hm, hz, _, hcell⟩
  · simp [Value.cells] at h1
    obtain ⟨rfl, rfl, rfl⟩ := h1
    exact ⟨[], rfl, rfl, Nat.le_refl _, by unfold maxLen; omega, (fun z hz => by cases hz), Or.inl rfl⟩
  · simp [Value.cells] at h1
    obtain ⟨rfl, rfl, rfl⟩ := h1
    have hle : n ≤ m := by rw [hz]; split <;> omega
    rw [cellsF6] at hcell
    have hall : ∀ i, i < n → ∃ e : FE, FeOk w e ∧ ∀ j v, (elF e)[j]? = some v → w.cell? ((a1.add (i * 23)).add j) = some v := by
      intro i hi
      obtain ⟨cs', hc, ht⟩ := hcell i (by omega)
      obtain ⟨e, rfl, hok⟩ := open_factC ht
      obtain ⟨_, hlen, hg⟩ := World.cells?_some hc
      refine ⟨e, hok, fun j v hj => ?_⟩
      rw [hg j (by rw [← hlen]; exact (List.getElem?_eq_some_iff.1 hj).1)]
      exact hj
    haveI : Inhabited FE := ⟨zE⟩
    obtain ⟨f, hf'⟩ := choose_lt hall
    refine ⟨(List.range n).map f, rfl, by simp, hn, hm, fun e he => ?_, ?_⟩
    · obtain ⟨i, hi, rfl⟩ := List.mem_map.1 he
      exact (hf' i (List.mem_range.1 hi)).1
    · rcases Nat.eq_zero_or_pos n with h0 | h0
      · exact .inl h0
      · have hs := World.cell?_spot ((hf' 0 h0).2 0 _ rfl)
        obtain ⟨b, off, spot⟩ := a1
        obtain rfl : spot = none := by simpa [Addr.add] using hs
        refine .inr ⟨b, off, rfl, fun k e he j v hv => ?_⟩
        rw [List.getElem?_map] at he
        by_cases hk : k < n
        · rw [List.getElem?_range hk] at he
          simp at he
          subst he
          have := (hf' k hk).2 j v hv
          rw [add_at, add_at] at this
          exact this
        · rw [List.getElem?_eq_none (by simp; omega)] at he
          simp at he
end
/-! ### A list that grows here -/
/-- e reads wherever memory below w0 and what was made since, but for the list's own row, is as in wr. -/
def PerF (w0 wr : World) (g : Option Nat) (e : FE) : Prop := ∀ w2 : World, Below w0.heap.size w0 w2 → (∀ k, w0.heap.size ≤ k → k < wr.heap.size → some k ≠ g → w2.heap[k]? = wr.heap[k]?) → FeOk w2 e
structure AccF (w0 wr : World) (v : Value) (k : Nat) (src : List FE) (ds : List FE) : Prop where
  own : wr.ownsRow w0.heap.size 28 23 v k (ds.flatMap elF)
  len : ds.length = k
  fs : ds.map FE.f = (src.take k).map (fun e => fewF e.f)
  per : ∀ d ∈ ds, PerF w0 wr v.ownBlock d
  below : Below w0.heap.size w0 wr
theorem AccF.nil (w0 : World) (src : List FE) : AccF w0 w0 (.slice none 0 0) 0 src [] := ⟨World.ownsRow_nil _ _ _ _, rfl, rfl, by simp, Below.refl _ _⟩
theorem acc_append {w0 wr w1 : World} {v : Value} {k : Nat} {src ds : List FE} (h : AccF w0 wr v k src ds) {e d : FE} (he : src[k]? = some e) (hd : d.f = fewF e.f) (hw : FeFw w0 wr w1 d) (hb : Below wr.heap.size wr w1) (hk : k ≤ 1000) :
    ∃ a' c' w2, (Builtin.append_ #[45, 45] 45 #[v, .slice (some ⟨w1.heap.size, 0, none⟩) 1 1]).run Tryz.prog (w1.alloc (.cells #[.int .i64 d.f.n, .int .i64 d.f.tm, .int .i64 d.f.kd, .int .i64 d.f.st, .string ⟨d.f.lg.toArray⟩, .int .i64 d.f.rv, .int .i64 d.f.bs, .string ⟨d.f.ti.toArray⟩, .string ⟨d.f.au.toArray⟩, .slice d.ta d.tn d.tc, .slice d.ba d.bn d.bc, .int .i64 d.f.lb.u, .slice d.la d.ln d.lc, .int .i64 d.f.lb.ap, .int .i64 d.f.lb.d, .int .i64 d.f.ed, .int .i64 d.f.bk, .int .i64 d.f.se, .string ⟨d.f.tx.toArray⟩, .string ⟨d.f.nm.toArray⟩, .int .i64 d.f.pt, .int .i64 d.f.cl, .int .i64 d.f.un] 28)) = .ok (.slice a' (k + 1) c') w2 ∧ AccF w0 w2 (.slice a' (k + 1) c') (k + 1) src (ds ++ [d]) := by
  obtain ⟨i0, hi, hz0, hz1, hz2⟩ := info_parts factInfo
  have hs0 := h.below.size
  have hs1 := hb.size
  have h1 : w1.ownsRow w0.heap.size 28 23 v k (ds.flatMap elF) := by
    rcases h.own.2 with hn | ⟨g, cap, cur, hv, hgb, hgg, rest⟩
    · exact ⟨h.own.1, .inl hn⟩
    · exact ⟨h.own.1, .inr ⟨g, cap, cur, hv, hgb, (hb.block g (Array.getElem?_eq_some_iff.1 hgg).1).trans hgg, rest⟩⟩
  have h2 := h1.alloc (.cells #[.int .i64 d.f.n, .int .i64 d.f.tm, .int .i64 d.f.kd, .int .i64 d.f.st, .string ⟨d.f.lg.toArray⟩, .int .i64 d.f.rv, .int .i64 d.f.bs, .string ⟨d.f.ti.toArray⟩, .string ⟨d.f.au.toArray⟩, .slice d.ta d.tn d.tc, .slice d.ba d.bn d.bc, .int .i64 d.f.lb.u, .slice d.la d.ln d.lc, .int .i64 d.f.lb.ap, .int .i64 d.f.lb.d, .int .i64 d.f.ed, .int .i64 d.f.bk, .int .i64 d.f.se, .string ⟨d.f.tx.toArray⟩, .string ⟨d.f.nm.toArray⟩, .int .i64 d.f.pt, .int .i64 d.f.cl, .int .i64 d.f.un] 28)
  obtain ⟨v', w2, hr, h6, h7, -, h8⟩ := run_append_own_at (P := Tryz.prog) (w1.alloc (.cells #[.int .i64 d.f.n, .int .i64 d.f.tm, .int .i64 d.f.kd, .int .i64 d.f.st, .string ⟨d.f.lg.toArray⟩, .int .i64 d.f.rv, .int .i64 d.f.bs, .string ⟨d.f.ti.toArray⟩, .string ⟨d.f.au.toArray⟩, .slice d.ta d.tn d.tc, .slice d.ba d.bn d.bc, .int .i64 d.f.lb.u, .slice d.la d.ln d.lc, .int .i64 d.f.lb.ap, .int .i64 d.f.lb.d, .int .i64 d.f.ed, .int .i64 d.f.bk, .int .i64 d.f.se, .string ⟨d.f.tx.toArray⟩, .string ⟨d.f.nm.toArray⟩, .int .i64 d.f.pt, .int .i64 d.f.cl, .int .i64 d.f.un] 28)) w0.heap.size 45 45 28 i0 (.agg (elF zE).toArray) 23 272 Tryz.underlying45 hi hz0 hz1 hz2 rfl (by decide) v k _ h2 ⟨w1.heap.size, 0, none⟩ 1 1 (elF d) (by simp [elF])
    (new_news w1 w1.heap.size rfl (elF d) 28) (elF_cell d) (by unfold maxLen; omega) (by omega) (by simp; omega)
  have hflat : ds.flatMap elF ++ elF d = (ds ++ [d]).flatMap elF := by simp
  rw [hflat] at h6
  obtain ⟨a', c', rfl⟩ := own_slice h6
  have hg0 : ∀ q, v.ownBlock = some q → w0.heap.size ≤ q ∧ q < wr.heap.size := fun q hq => by
    rcases h.own.2 with ⟨hv, _⟩ | ⟨g, cap, cur, hv, hgb, hgg, _⟩
    · rw [hv] at hq; cases hq
    · rw [hv] at hq; cases hq; exact ⟨hgb, (Array.getElem?_eq_some_iff.1 hgg).1⟩
  have hs2 : w1.heap.size + 1 ≤ w2.heap.size := by have := h7.size; simpa using this
  have hold : ∀ q, q < w1.heap.size → some q ≠ v.ownBlock → w2.heap[q]? = w1.heap[q]? := fun q hq hne =>
    (h7.block q (by simp; omega) hne).trans (heap_alloc_old w1 _ q hq)
  have hne : ∀ q, q < w1.heap.size → some q ≠ v.ownBlock → some q ≠ (Value.slice a' (k + 1) c').ownBlock := fun q hq hq2 => by
    rcases h8 with h8 | h8
    · rw [h8]; exact hq2
    · rw [h8]; simp; omega
  have hB1 : Below w0.heap.size w0 (w1.alloc (.cells #[.int .i64 d.f.n, .int .i64 d.f.tm, .int .i64 d.f.kd, .int .i64 d.f.st, .string ⟨d.f.lg.toArray⟩, .int .i64 d.f.rv, .int .i64 d.f.bs, .string ⟨d.f.ti.toArray⟩, .string ⟨d.f.au.toArray⟩, .slice d.ta d.tn d.tc, .slice d.ba d.bn d.bc, .int .i64 d.f.lb.u, .slice d.la d.ln d.lc, .int .i64 d.f.lb.ap, .int .i64 d.f.lb.d, .int .i64 d.f.ed, .int .i64 d.f.bk, .int .i64 d.f.se, .string ⟨d.f.tx.toArray⟩, .string ⟨d.f.nm.toArray⟩, .int .i64 d.f.pt, .int .i64 d.f.cl, .int .i64 d.f.un] 28)) := (h.below.trans (hb.mono hs0)).alloc (by omega) _
  refine ⟨a', c', w2, hr, ⟨h6, by rw [List.length_append, h.len]; rfl, ?_, ?_, hB1.grown h7 (by simp; omega) (fun q hq => (hg0 q hq).1)⟩⟩
  · rw [List.map_append, h.fs, List.take_succ_eq_append_getElem (List.getElem?_eq_some_iff.1 he).1, List.map_append]
    have := (List.getElem?_eq_some_iff.1 he).2
    simp [hd, this]
  · intro x hx w3 hw3 hk3
    rcases List.mem_append.1 hx with hx | hx
    · refine h.per x hx w3 hw3 (fun q q1 q2 q3 => ?_)
      rw [hk3 q q1 (by omega) (hne q (by omega) q3), hold q (by omega) q3, hb.block q q2]
    · obtain rfl : x = d := by simpa using hx
      refine hw w3 hw3 (fun q q1 q2 => ?_)
      have q3 : some q ≠ v.ownBlock := fun hq => by have := (hg0 q hq.symm).2; omega
      rw [hk3 q (by omega) (by omega) (hne q q2 q3), hold q q2 q3]
theorem AccF.list {w0 wr : World} {a : Option Addr} {c k : Nat} {src ds : List FE} (h : AccF w0 wr (.slice a k c) k src ds) : IsFs wr a k c ds := by
  have hok : ∀ e ∈ ds, FeOk wr e := fun e he => h.per e he wr h.below (fun _ _ _ _ => rfl)
  rcases h.own.2 with ⟨hv, hn⟩ | ⟨g, cap, cur, hv, hg, hh, hnc, hcm, hcs, ht⟩
  · cases hv
    exact ⟨h.len, Nat.le_refl _, by unfold maxLen; omega, hok, .inl rfl⟩
  · cases hv
    refine ⟨h.len, hnc, hcm, hok, .inr ⟨g, 0, rfl, fun k' e hke j v hv => ?_⟩⟩
    have h3 := flat23_at ds k' e hke j v hv
    rw [← ht, List.getElem?_take] at h3
    split at h3
    · rw [Joins.cell_of_block hh, Nat.zero_add]
      simpa using h3
    · simp at h3
theorem IsFs.tail {w : World} {b off n c : Nat} {es : List FE} (h : IsFs w (some ⟨b, off, none⟩) (n + 1) c es) : IsFs w (some ⟨b, off + 23, none⟩) n (c - 1) (es.drop 1) := by
  obtain ⟨h1, h2, h3, h4, h5⟩ := h
  refine ⟨by rw [List.length_drop]; omega, by omega, by omega, fun e he => h4 e (List.mem_of_mem_drop he), ?_⟩
  rcases h5 with h5 | ⟨b', off', e, hc⟩
  · omega
  · cases e
    refine .inr ⟨b, off + 23, rfl, fun k e he => ?_⟩
    rw [List.getElem?_drop] at he
    have := hc (1 + k) e he
    rwa [show off + (1 + k) * 23 = off + 23 + k * 23 by omega] at this
/-- The pairs, one after the other. -/
def zS (l m : List Fct) (k : Nat) : Bool := decide (l.length = m.length) && ((l.zip m).take k).all (fun p => sF p.1 p.2)
theorem zS_succ {l m : List Fct} {k : Nat} {x y : Fct} (h1 : l[k]? = some x) (h2 : m[k]? = some y) : zS l m (k + 1) = (zS l m k && sF x y) := by
  have hk : k < (l.zip m).length := by
    have := (List.getElem?_eq_some_iff.1 h1).1
    have := (List.getElem?_eq_some_iff.1 h2).1
    simp; omega
  have he : (l.zip m)[k] = (x, y) := by
    rw [List.getElem_zip, (List.getElem?_eq_some_iff.1 h1).2, (List.getElem?_eq_some_iff.1 h2).2]
  unfold zS
  rw [List.take_succ_eq_append_getElem hk, List.all_append, he]
  simp [Bool.and_assoc]
theorem zS_all : ∀ (l m : List Fct), (decide (l.length = m.length) && (l.zip m).all (fun p => sF p.1 p.2)) = sFs l m
  | [], [] => rfl
  | [], _ :: _ => rfl
  | _ :: _, [] => rfl
  | x :: l, y :: m => by
    unfold sFs
    rw [← zS_all l m]
    simp only [List.length_cons, List.zip_cons_cons, List.all_cons, Nat.add_right_cancel_iff]
    cases sF x y <;> simp
theorem zS_end {l m : List Fct} {k : Nat} (h : l.length ≤ k ∨ m.length ≤ k) : zS l m k = sFs l m := by
  unfold zS
  rw [List.take_of_length_le (by rw [List.length_zip]; omega), zS_all]
theorem zS_zero (l m : List Fct) : zS l m 0 = decide (l.length = m.length) := by simp [zS]
theorem kFb (e : FE) (w0 w : World) (h0 : FeOk w0 e) (hB0 : Below w0.heap.size w0 w) : Calls Tryz.prog 11 #[.agg #[.int .i64 e.f.n, .int .i64 e.f.tm, .int .i64 e.f.kd, .int .i64 e.f.st, .string ⟨e.f.lg.toArray⟩, .int .i64 e.f.rv, .int .i64 e.f.bs, .string ⟨e.f.ti.toArray⟩, .string ⟨e.f.au.toArray⟩, .slice e.ta e.tn e.tc, .slice e.ba e.bn e.bc, .int .i64 e.f.lb.u, .slice e.la e.ln e.lc, .int .i64 e.f.lb.ap, .int .i64 e.f.lb.d, .int .i64 e.f.ed, .int .i64 e.f.bk, .int .i64 e.f.se, .string ⟨e.f.tx.toArray⟩, .string ⟨e.f.nm.toArray⟩, .int .i64 e.f.pt, .int .i64 e.f.cl, .int .i64 e.f.un]] w fun r w' => ∃ d : FE, r = .returned (.agg #[.int .i64 d.f.n, .int .i64 d.f.tm, .int .i64 d.f.kd, .int .i64 d.f.st, .string ⟨d.f.lg.toArray⟩, .int .i64 d.f.rv, .int .i64 d.f.bs, .string ⟨d.f.ti.toArray⟩, .string ⟨d.f.au.toArray⟩, .slice d.ta d.tn d.tc, .slice d.ba d.bn d.bc, .int .i64 d.f.lb.u, .slice d.la d.ln d.lc, .int .i64 d.f.lb.ap, .int .i64 d.f.lb.d, .int .i64 d.f.ed, .int .i64 d.f.bk, .int .i64 d.f.se, .string ⟨d.f.tx.toArray⟩, .string ⟨d.f.nm.toArray⟩, .int .i64 d.f.pt, .int .i64 d.f.cl, .int .i64 d.f.un]) ∧ d.f = fewF e.f ∧ FeFw w0 w w' d ∧ Below w.heap.size w w' := few5b e w0 w h0 hB0
theorem kSt (e d : FE) (W : World) (h : FeOk W e) (k : FeOk W d) (b : Bool) (hb : sF e.f d.f = b) : Calls Tryz.prog 15 #[.agg #[.int .i64 e.f.n, .int .i64 e.f.tm, .int .i64 e.f.kd, .int .i64 e.f.st, .string ⟨e.f.lg.toArray⟩, .int .i64 e.f.rv, .int .i64 e.f.bs, .string ⟨e.f.ti.toArray⟩, .string ⟨e.f.au.toArray⟩, .slice e.ta e.tn e.tc, .slice e.ba e.bn e.bc, .int .i64 e.f.lb.u, .slice e.la e.ln e.lc, .int .i64 e.f.lb.ap, .int .i64 e.f.lb.d, .int .i64 e.f.ed, .int .i64 e.f.bk, .int .i64 e.f.se, .string ⟨e.f.tx.toArray⟩, .string ⟨e.f.nm.toArray⟩, .int .i64 e.f.pt, .int .i64 e.f.cl, .int .i64 e.f.un], .agg #[.int .i64 d.f.n, .int .i64 d.f.tm, .int .i64 d.f.kd, .int .i64 d.f.st, .string ⟨d.f.lg.toArray⟩, .int .i64 d.f.rv, .int .i64 d.f.bs, .string ⟨d.f.ti.toArray⟩, .string ⟨d.f.au.toArray⟩, .slice d.ta d.tn d.tc, .slice d.ba d.bn d.bc, .int .i64 d.f.lb.u, .slice d.la d.ln d.lc, .int .i64 d.f.lb.ap, .int .i64 d.f.lb.d, .int .i64 d.f.ed, .int .i64 d.f.bk, .int .i64 d.f.se, .string ⟨d.f.tx.toArray⟩, .string ⟨d.f.nm.toArray⟩, .int .i64 d.f.pt, .int .i64 d.f.cl, .int .i64 d.f.un]] W fun r w' => r = .returned (.bool b) ∧ Below W.heap.size W w' := by
  subst hb
  exact same5 e d W h k
end Go.Proofs.YtlhcckjfgpcohaaGreatDoor
namespace Go.Proofs.YtlhcckjfgpcohaaGreatDoor
open Go.RowKit Go.MapKept
set_option maxRecDepth 100000
set_option linter.unusedSimpArgs false
set_option linter.unusedVariables false
theorem IsFs.tailA {w : World} {va : Option Addr} {m vc : Nat} {ds : List FE} (h : IsFs w va m vc ds) (hm : m ≠ 0) : IsFs w (Option.map (fun x => (⟨x.block, x.off + 23, none⟩ : Addr)) va) (m - 1) (vc - 1) (ds.drop 1) := by
  obtain ⟨k, rfl⟩ : ∃ k, m = k + 1 := ⟨m - 1, by omega⟩
  rcases h.2.2.2.2 with h0 | ⟨b, off, rfl, _⟩
  · omega
  · exact h.tail
theorem same_tail2 (va : Option Addr) (m vc : Nat) (ds : List FE) (w : World) (h : IsFs w va m vc ds) (hm : m ≠ 0) :
    Calls Tryz.prog 20 #[.slice va m vc, .slice (Option.map (fun x => (⟨x.block, x.off + 23, none⟩ : Addr)) va) (m - 1) (vc - 1)] w fun r w' => r = .returned (.bool false) ∧ Below w.heap.size w w' := by
  have K := samefacts _ _ _ _ _ _ _ _ w h (h.tailA hm)
  rw [sFs_len (by have := h.1; simp only [List.length_map, List.length_drop]; omega)] at K
  exact K
theorem same_tail1 (va : Option Addr) (m : Nat) (ds : List FE) (w : World) (h : IsFs w va m 1 ds) (hm : m ≠ 0) :
    Calls Tryz.prog 20 #[.slice va m 1, .slice va (m - 1) 0] w fun r w' => r = .returned (.bool false) ∧ Below w.heap.size w w' := by
  have h1 : m = 1 := by have := h.2.1; omega
  subst h1
  have K := samefacts _ _ _ _ va 0 0 [] w h ⟨rfl, Nat.le_refl _, by unfold maxLen; omega, by simp, .inl rfl⟩
  rw [sFs_len (by have := h.1; simp only [List.length_map, List.length_nil]; omega)] at K
  exact K
theorem beq_cast (m n : Nat) : ((m : Int) == (n : Int)) = decide (m = n) := by
  rw [Bool.eq_iff_iff]
  simp only [beq_iff_eq, decide_eq_true_eq]
  omega
theorem yields_loadF {ops : Array Oper} {o : Oper} {a : Act} {S : World → Prop} (x : Operand) (b off : Nat) (e : FE) (hS : ∀ w, S w → w.rangeAt b off (elF e)) (hw : Region.wanted o (yielded ops a.tmps) = true) (ho : o.op = .load 28 x)
    (hx : a.eval x = .pointer (some ⟨b, off, none⟩)) : YieldsIf Tryz.prog ops S o (.agg #[.int .i64 e.f.n, .int .i64 e.f.tm, .int .i64 e.f.kd, .int .i64 e.f.st, .string ⟨e.f.lg.toArray⟩, .int .i64 e.f.rv, .int .i64 e.f.bs, .string ⟨e.f.ti.toArray⟩, .string ⟨e.f.au.toArray⟩, .slice e.ta e.tn e.tc, .slice e.ba e.bn e.bc, .int .i64 e.f.lb.u, .slice e.la e.ln e.lc, .int .i64 e.f.lb.ap, .int .i64 e.f.lb.d, .int .i64 e.f.ed, .int .i64 e.f.bk, .int .i64 e.f.se, .string ⟨e.f.tx.toArray⟩, .string ⟨e.f.nm.toArray⟩, .int .i64 e.f.pt, .int .i64 e.f.cl, .int .i64 e.f.un]) a :=
  .inl ⟨hw, fun w h => by
    have hr := run_loadVar_mid w b off 28 (elF e) _ (hS w h) Tryz.underlying28 rfl (by kernel_rfl)
    unfold execOp
    simp only [ho, hx, Instr.loadAt, Instr.sureAddr, Sem.run_bind, Sem.run_pure, Result.andThen_ok, hr]
    rfl⟩
set_option maxHeartbeats 32000000 in
theorem lists5 (a : Option Addr) (n c : Nat) (es : List FE) (a2 : Option Addr) (n2 c2 : Nat) (fs : List FE) (q : Bool) (w : World) (h : IsFs w a n c es) (h2 : IsFs w a2 n2 c2 fs) : Calls Tryz.prog 9 #[.slice a n c, .slice a2 n2 c2, .bool q] w fun r w' => r = .returned (.bool true) ∧ Below w.heap.size w w' := by
  have hn1 : n ≤ 9223372036854775807 := by have h1 := h.2.1; have h2 := h.2.2.1; unfold maxLen at h2; omega
  have hn2 : n2 ≤ 9223372036854775807 := by have h1 := h2.2.1; have h2 := h2.2.2.1; unfold maxLen at h2; omega
  obtain ⟨m, hm1, hm5, hmm⟩ : ∃ m : Nat, m ≤ n ∧ m ≤ 5 ∧ (n ≤ 5 → m = n) ∧ (¬ n ≤ 5 → m = 5) := by
    by_cases h5 : n ≤ 5
    · exact ⟨n, Nat.le_refl _, h5, fun _ => rfl, fun q => absurd h5 q⟩
    · exact ⟨5, by omega, Nat.le_refl _, fun q => absurd q h5, fun _ => rfl⟩
  obtain ⟨m2, hm21, hm25, hmm2⟩ : ∃ m2 : Nat, m2 ≤ n2 ∧ m2 ≤ 5 ∧ (n2 ≤ 5 → m2 = n2) ∧ (¬ n2 ≤ 5 → m2 = 5) := by
    by_cases h5 : n2 ≤ 5
    · exact ⟨n2, Nat.le_refl _, h5, fun _ => rfl, fun q => absurd h5 q⟩
    · exact ⟨5, by omega, Nat.le_refl _, fun q => absurd q h5, fun _ => rfl⟩
  have HM1 := Lib.hid hmm
  have HM2 := Lib.hid hmm2
  clear hmm hmm2
  have H1 := Lib.hid h
  have H2 := Lib.hid h2
  clear h h2
  go_enter Tryz.func9, Tryz.ntmps9
  go_wp2_with fail
  refine (sane5 w).mono ?_
  rintro r w1 ⟨rfl, b1⟩
  replace H1 := Lib.hid (H1.out.over b1)
  replace H2 := Lib.hid (H2.out.over b1)
  have B1 := Lib.hid b1
  clear b1
  go_upto_block 0 with fail
  go_cut [8] (fun s wx => ∃ va vc ds, s = .slice va m vc ∧ Hid (AccF w1 wx (.slice va m vc) m es ds))
  case first =>
    go_wp2_with fail
    go_loopw [10, 8] (fun i v wr => ∃ (k : Nat) (ds : List FE), k ≤ m ∧ i = .int .i64 k ∧ Hid (AccF w1 wr v k es ds)) (fun i _ _ => m - (intOf i).toNat)
    case atStart => exact ⟨0, [], Nat.zero_le _, rfl, Lib.hid (AccF.nil _ _)⟩
    case round =>
      obtain ⟨k, ds, hk, rfl, hacc⟩ := hrel
      obtain ⟨va, vc, rfl⟩ := own_slice hacc.out.own
      by_cases hlt : k < m
      · obtain ⟨e, he⟩ : ∃ e, es[k]? = some e := ⟨es[k]'(by rw [H1.out.1]; omega), List.getElem?_eq_getElem _⟩
        obtain ⟨-, -, -, ok1, r1'⟩ := H1.out.over hacc.out.below
        obtain ⟨b, off, rfl, r1⟩ := r1'.resolve_left (by omega)
        have R1 := Lib.hid (r1 k e he)
        have OK0 := Lib.hid (H1.out.2.2.2.1 e (List.mem_of_getElem? he))
        have HE := Lib.hid he
        have g1 : (k : Int) < n := by omega
        have g2 : (k : Int) < 5 := by omega
        clear ok1 r1' r1 he
        go_wp2_with (refine wpList_loadF _ b (off + k * 23) e R1.out rfl rfl rfl ?_)
        refine (kFb e w1 wr OK0.out hacc.out.below).mono ?_
        rintro r wn ⟨d, rfl, hdf, hfw, bn⟩
        obtain ⟨a', c', wm, hr, hac⟩ := acc_append hacc.out HE.out hdf hfw bn (by omega)
        have HR := Lib.hid hr
        have HAC := Lib.hid hac
        clear hr hac hdf hfw bn R1 OK0 hacc HE
        go_wp2_with (at_builtin; refine Lib.wpList_append_run _ rfl _ _ 45 45 rfl _ _ rfl rfl _ _ HR.out ?_)
        go_roundw
        case rel => exact ⟨k + 1, _, by omega, by go_num, HAC⟩
        case measure => simp [intOf]; omega
      · obtain rfl : m = k := by omega
        by_cases h5 : n ≤ 5
        · have g1 : ¬ ((m : Int) < n) := by have := HM1.out.1 h5; omega
          go_wp2_with fail
          go_meet
          exact ⟨_, _, _, rfl, hacc⟩
        · have g1 : (m : Int) < n := by have := HM1.out.2 h5; omega
          have g2 : ¬ ((m : Int) < 5) := by have := HM1.out.2 h5; omega
          go_wp2_with fail
          go_meet
          exact ⟨_, _, _, rfl, hacc⟩
  case rest =>
  obtain ⟨va, vc, ds, rfl, hacc⟩ := hcut
  obtain ⟨w2, rfl⟩ : ∃ w2, w2 = wc := ⟨_, rfl⟩
  replace H2 := Lib.hid (H2.out.over hacc.out.below)
  have L1 := Lib.hid hacc.out.list
  have HF1 := Lib.hid hacc.out.fs
  replace B1 := Lib.hid (bel2 B1.out hacc.out.below)
  clear hacc H1
  go_upto_block 2 with fail
  go_cut [9] (fun s wx => ∃ va vc ds, s = .slice va m2 vc ∧ Hid (AccF w2 wx (.slice va m2 vc) m2 fs ds))
  case first =>
    go_wp2_with fail
    go_loopw [11, 9] (fun i v wr => ∃ (k : Nat) (ds : List FE), k ≤ m2 ∧ i = .int .i64 k ∧ Hid (AccF w2 wr v k fs ds)) (fun i _ _ => m2 - (intOf i).toNat)
    case atStart => exact ⟨0, [], Nat.zero_le _, rfl, Lib.hid (AccF.nil _ _)⟩
    case round =>
      obtain ⟨k, ds, hk, rfl, hacc⟩ := hrel
      obtain ⟨va, vc, rfl⟩ := own_slice hacc.out.own
      by_cases hlt : k < m2
      · obtain ⟨e, he⟩ : ∃ e, fs[k]? = some e := ⟨fs[k]'(by rw [H2.out.1]; omega), List.getElem?_eq_getElem _⟩
        obtain ⟨-, -, -, ok1, r1'⟩ := H2.out.over hacc.out.below
        obtain ⟨b, off, rfl, r1⟩ := r1'.resolve_left (by omega)
        have R1 := Lib.hid (r1 k e he)
        have OK0 := Lib.hid (H2.out.2.2.2.1 e (List.mem_of_getElem? he))
        have HE := Lib.hid he
        have g1 : (k : Int) < n2 := by omega
        have g2 : (k : Int) < 5 := by omega
        clear ok1 r1' r1 he
        go_wp2_with (refine wpList_loadF _ b (off + k * 23) e R1.out rfl rfl rfl ?_)
        refine (kFb e w2 wr OK0.out hacc.out.below).mono ?_
        rintro r wn ⟨d, rfl, hdf, hfw, bn⟩
        obtain ⟨a', c', wm, hr, hac⟩ := acc_append hacc.out HE.out hdf hfw bn (by omega)
        have HR := Lib.hid hr
        have HAC := Lib.hid hac
        clear hr hac hdf hfw bn R1 OK0 hacc HE
        go_wp2_with (at_builtin; refine Lib.wpList_append_run _ rfl _ _ 45 45 rfl _ _ rfl rfl _ _ HR.out ?_)
        go_roundw
        case rel => exact ⟨k + 1, _, by omega, by go_num, HAC⟩
        case measure => simp [intOf]; omega
      · obtain rfl : m2 = k := by omega
        by_cases h5 : n2 ≤ 5
        · have g1 : ¬ ((m2 : Int) < n2) := by have := HM2.out.1 h5; omega
          go_wp2_with fail
          go_meet
          exact ⟨_, _, _, rfl, hacc⟩
        · have g1 : (m2 : Int) < n2 := by have := HM2.out.2 h5; omega
          have g2 : ¬ ((m2 : Int) < 5) := by have := HM2.out.2 h5; omega
          go_wp2_with fail
          go_meet
          exact ⟨_, _, _, rfl, hacc⟩
  case rest =>
  obtain ⟨va2, vc2, ds2, rfl, hacc⟩ := hcut
  obtain ⟨w3, rfl⟩ : ∃ w3, w3 = wc := ⟨_, rfl⟩
  replace L1 := Lib.hid (L1.out.over hacc.out.below)
  have L2 := Lib.hid hacc.out.list
  replace B1 := Lib.hid (bel2 B1.out hacc.out.below)
  clear hacc H2
  cases q
  · obtain ⟨sb, HSB⟩ : ∃ sb, Hid (sFs (ds.map FE.f) (ds2.map FE.f) = sb) := ⟨_, Lib.hid rfl⟩
    obtain ⟨mm, HMM, hmm1, hmm2⟩ : ∃ mm : Nat, Hid ((m ≤ m2 → mm = m) ∧ (¬ m ≤ m2 → mm = m2)) ∧ mm ≤ m ∧ mm ≤ m2 := by
      by_cases hq : m ≤ m2
      · exact ⟨m, Lib.hid ⟨fun _ => rfl, fun q => absurd hq q⟩, Nat.le_refl _, hq⟩
      · exact ⟨m2, Lib.hid ⟨fun q => absurd q hq, fun _ => rfl⟩, by omega, Nat.le_refl _⟩
    have HZ0 : Hid (zS (ds.map FE.f) (ds2.map FE.f) 0 = ((m : Int) == m2)) := Lib.hid (by rw [zS_zero, List.length_map, List.length_map, L1.out.1, L2.out.1, beq_cast])
    go_upto_block 4 with fail
    go_cut [12] (fun s12 wx => s12 = .bool sb ∧ Hid (Below w3.heap.size w3 wx))
    case first =>
      go_wp2_with fail
      go_loopw [13, 12] (fun i s wr => ∃ k : Nat, k ≤ mm ∧ i = .int .i64 k ∧ s = .bool (zS (ds.map FE.f) (ds2.map FE.f) k) ∧ Hid (Below w3.heap.size w3 wr)) (fun i _ _ => mm - (intOf i).toNat)
      case atStart => exact ⟨0, Nat.zero_le _, rfl, by rw [HZ0.out], Lib.hid (Below.refl _ _)⟩
      case round =>
        obtain ⟨k, hk, rfl, rfl, bw⟩ := hrel
        by_cases hlt : k < mm
        · obtain ⟨x, hx⟩ : ∃ x, ds[k]? = some x := ⟨ds[k]'(by rw [L1.out.1]; omega), List.getElem?_eq_getElem _⟩
          obtain ⟨-, -, -, ok1, r1'⟩ := (L1.out.over bw.out).over (below_drew wr)
          obtain ⟨b, off, rfl, r1⟩ := r1'.resolve_left (by omega)
          have R1 : Hid (wr.drew.rangeAt b (off + k * 23) (elF x)) := Lib.hid (r1 k x hx)
          have OK1 := Lib.hid (ok1 x (List.mem_of_getElem? hx))
          obtain ⟨y, hy⟩ : ∃ y, ds2[k]? = some y := ⟨ds2[k]'(by rw [L2.out.1]; omega), List.getElem?_eq_getElem _⟩
          obtain ⟨-, -, -, ok2, r2'⟩ := (L2.out.over bw.out).over (below_drew wr)
          obtain ⟨b2, off2, rfl, r2⟩ := r2'.resolve_left (by omega)
          have R2 : Hid (wr.drew.rangeAt b2 (off2 + k * 23) (elF y)) := Lib.hid (r2 k y hy)
          have OK2 := Lib.hid (ok2 y (List.mem_of_getElem? hy))
          have HZ : Hid (zS (ds.map FE.f) (ds2.map FE.f) (k + 1) = (zS (ds.map FE.f) (ds2.map FE.f) k && sF x.f y.f)) := Lib.hid (zS_succ (by rw [List.getElem?_map, hx]; rfl) (by rw [List.getElem?_map, hy]; rfl))
          have g1 : (k : Int) < m := by omega
          have g2 : (k : Int) < m2 := by omega
          have g3 : k < m := by omega
          have g4 : k < m2 := by omega
          have BD := Lib.hid (bel2 bw.out (below_drew wr))
          clear hx r1' r1 ok1 hy r2' r2 ok2 bw
          cases hz : zS (ds.map FE.f) (ds2.map FE.f) k
          · have HZK := Lib.hid hz
            clear hz
            go_upto_region 18 with fail
            refine wp_region_held_drew (S := fun w' => w'.rangeAt b (off + k * 23) (elF x) ∧ w'.rangeAt b2 (off2 + k * 23) (elF y)) (by kernel_rfl) ?_ (fun h0 => ?_)
            · exact ⟨R1.out, R2.out⟩
            refine wpAnyH_take (i := 0) (v := ?_) rfl (by kernel_rfl) (by kernel_rfl) (by kernel_rfl) (fun _ _ _ h => h) (Or.inl ⟨by rfl, ?_⟩) h0 ?_
            rotate_left
            · (intro w hSw; (try dsimp only at hSw); go_simp); all_goals (with_reducible rfl)
            try simp only [List.getElem_toArray, List.getElem_cons_succ, List.getElem_cons_zero, Act.put, List.setIfInBounds_toArray, List.set_cons_zero, List.set_cons_succ]
            refine wpAnyH_take (i := 1) (v := ?_) rfl (by kernel_rfl) (by kernel_rfl) (by kernel_rfl) (fun _ _ _ h => h) (Or.inl ⟨by rfl, ?_⟩) h0 ?_
            rotate_left
            · (intro w hSw; (try dsimp only at hSw); go_simp); all_goals (with_reducible rfl)
            try simp only [List.getElem_toArray, List.getElem_cons_succ, List.getElem_cons_zero, Act.put, List.setIfInBounds_toArray, List.set_cons_zero, List.set_cons_succ]
            refine wpAnyH_take (i := 2) (v := undef) rfl (by kernel_rfl) (by kernel_rfl) (by kernel_rfl) (fun _ _ _ h => h) (Or.inr ⟨by rfl, rfl⟩) h0 ?_
            try simp only [List.getElem_toArray, List.getElem_cons_succ, List.getElem_cons_zero, Act.put, List.setIfInBounds_toArray, List.set_cons_zero, List.set_cons_succ]
            refine wpAnyH_take (i := 3) (v := undef) rfl (by kernel_rfl) (by kernel_rfl) (by kernel_rfl) (fun _ _ _ h => h) (Or.inr ⟨by rfl, rfl⟩) h0 ?_
            try simp only [List.getElem_toArray, List.getElem_cons_succ, List.getElem_cons_zero, Act.put, List.setIfInBounds_toArray, List.set_cons_zero, List.set_cons_succ]
            refine wpAnyH_take (i := 4) (v := undef) rfl (by kernel_rfl) (by kernel_rfl) (by kernel_rfl) (fun _ _ _ h => h) (Or.inr ⟨by rfl, rfl⟩) h0 ?_
            try simp only [List.getElem_toArray, List.getElem_cons_succ, List.getElem_cons_zero, Act.put, List.setIfInBounds_toArray, List.set_cons_zero, List.set_cons_succ]
            refine wpAnyH_take (i := 5) (v := undef) rfl (by kernel_rfl) (by kernel_rfl) (by kernel_rfl) (fun _ _ _ h => h) (Or.inr ⟨by rfl, rfl⟩) h0 ?_
            try simp only [List.getElem_toArray, List.getElem_cons_succ, List.getElem_cons_zero, Act.put, List.setIfInBounds_toArray, List.set_cons_zero, List.set_cons_succ]
            refine wpAnyH_take (i := 6) (v := undef) rfl (by kernel_rfl) (by kernel_rfl) (by kernel_rfl) (fun _ _ _ h => h) (Or.inr ⟨by rfl, rfl⟩) h0 ?_
            try simp only [List.getElem_toArray, List.getElem_cons_succ, List.getElem_cons_zero, Act.put, List.setIfInBounds_toArray, List.set_cons_zero, List.set_cons_succ]
            refine wpAnyH_take (i := 7) (v := undef) rfl (by kernel_rfl) (by kernel_rfl) (by kernel_rfl) (fun _ _ _ h => h) (Or.inr ⟨by rfl, rfl⟩) h0 ?_
            try simp only [List.getElem_toArray, List.getElem_cons_succ, List.getElem_cons_zero, Act.put, List.setIfInBounds_toArray, List.set_cons_zero, List.set_cons_succ]
            refine wpAnyH_take (i := 8) (v := undef) rfl (by kernel_rfl) (by kernel_rfl) (by kernel_rfl) (fun _ _ _ h => h) (Or.inr ⟨by rfl, rfl⟩) h0 ?_
            try simp only [List.getElem_toArray, List.getElem_cons_succ, List.getElem_cons_zero, Act.put, List.setIfInBounds_toArray, List.set_cons_zero, List.set_cons_succ]
            refine wpAnyH_take (i := 9) (v := undef) rfl (by kernel_rfl) (by kernel_rfl) (by kernel_rfl) (fun _ _ _ h => h) (Or.inr ⟨by rfl, rfl⟩) h0 ?_
            try simp only [List.getElem_toArray, List.getElem_cons_succ, List.getElem_cons_zero, Act.put, List.setIfInBounds_toArray, List.set_cons_zero, List.set_cons_succ]
            refine wpAnyH_take (i := 10) (v := undef) rfl (by kernel_rfl) (by kernel_rfl) (by kernel_rfl) (fun _ _ _ h => h) (Or.inr ⟨by rfl, rfl⟩) h0 ?_
            try simp only [List.getElem_toArray, List.getElem_cons_succ, List.getElem_cons_zero, Act.put, List.setIfInBounds_toArray, List.set_cons_zero, List.set_cons_succ]
            refine wpAnyH_take (i := 11) (v := ?_) rfl (by kernel_rfl) (by kernel_rfl) (by kernel_rfl) (fun _ _ _ h => h) (Or.inl ⟨by rfl, ?_⟩) h0 ?_
            rotate_left
            · (intro w hSw; (try dsimp only at hSw); go_simp); all_goals (with_reducible rfl)
            try simp only [List.getElem_toArray, List.getElem_cons_succ, List.getElem_cons_zero, Act.put, List.setIfInBounds_toArray, List.set_cons_zero, List.set_cons_succ]
            refine wpAnyH_take (i := 12) (v := ?_) rfl (by kernel_rfl) (by kernel_rfl) (by kernel_rfl) (fun _ _ _ h => h) (Or.inl ⟨by rfl, ?_⟩) h0 ?_
            rotate_left
            · (intro w hSw; (try dsimp only at hSw); go_simp); all_goals (with_reducible rfl)
            try simp only [List.getElem_toArray, List.getElem_cons_succ, List.getElem_cons_zero, Act.put, List.setIfInBounds_toArray, List.set_cons_zero, List.set_cons_succ]
            refine wpAnyH_done (by kernel_rfl) ?_ _
            clear h0
            go_wp2_with fail
            go_roundw
            case rel => exact ⟨k + 1, by omega, by go_num, by rw [HZ.out, HZK.out]; rfl, BD⟩
            case measure => simp [intOf]; omega
          · have HZK := Lib.hid hz
            clear hz
            have KS := Lib.hid (fun W h1 h2 => kSt x y W h1 h2 (sF x.f y.f) rfl)
            go_upto_region 18 with fail
            refine wp_region_held_drew (S := fun w' => w'.rangeAt b (off + k * 23) (elF x) ∧ w'.rangeAt b2 (off2 + k * 23) (elF y)) (by kernel_rfl) ?_ (fun h0 => ?_)
            · exact ⟨R1.out, R2.out⟩
            refine wpAnyH_take (i := 0) (v := ?_) rfl (by kernel_rfl) (by kernel_rfl) (by kernel_rfl) (fun _ _ _ h => h) (Or.inl ⟨by rfl, ?_⟩) h0 ?_
            rotate_left
            · (intro w hSw; (try dsimp only at hSw); go_simp); all_goals (with_reducible rfl)
            try simp only [List.getElem_toArray, List.getElem_cons_succ, List.getElem_cons_zero, Act.put, List.setIfInBounds_toArray, List.set_cons_zero, List.set_cons_succ]
            refine wpAnyH_take (i := 1) (v := ?_) rfl (by kernel_rfl) (by kernel_rfl) (by kernel_rfl) (fun _ _ _ h => h) (Or.inl ⟨by rfl, ?_⟩) h0 ?_
            rotate_left
            · (intro w hSw; (try dsimp only at hSw); go_simp); all_goals (with_reducible rfl)
            try simp only [List.getElem_toArray, List.getElem_cons_succ, List.getElem_cons_zero, Act.put, List.setIfInBounds_toArray, List.set_cons_zero, List.set_cons_succ]
            refine wpAnyH_take (i := 2) (v := ?_) rfl (by kernel_rfl) (by kernel_rfl) (by kernel_rfl) (fun _ _ _ h => h) (Or.inl ⟨by rfl, ?_⟩) h0 ?_
            rotate_left
            · (intro w hSw; (try dsimp only at hSw); go_simp); all_goals (with_reducible rfl)
            try simp only [List.getElem_toArray, List.getElem_cons_succ, List.getElem_cons_zero, Act.put, List.setIfInBounds_toArray, List.set_cons_zero, List.set_cons_succ]
            refine wpAnyH_take (i := 3) (v := ?_) rfl (by kernel_rfl) (by kernel_rfl) (by kernel_rfl) (fun _ _ _ h => h) (Or.inl ⟨by rfl, ?_⟩) h0 ?_
            rotate_left
            · (intro w hSw; (try dsimp only at hSw); go_simp); all_goals (with_reducible rfl)
            try simp only [List.getElem_toArray, List.getElem_cons_succ, List.getElem_cons_zero, Act.put, List.setIfInBounds_toArray, List.set_cons_zero, List.set_cons_succ]
            refine wpAnyH_take (i := 4) (v := ?_) rfl (by kernel_rfl) (by kernel_rfl) (by kernel_rfl) (fun _ _ _ h => h) (Or.inl ⟨by rfl, ?_⟩) h0 ?_
            rotate_left
            · (intro w hSw; (try dsimp only at hSw); go_simp); all_goals (with_reducible rfl)
            try simp only [List.getElem_toArray, List.getElem_cons_succ, List.getElem_cons_zero, Act.put, List.setIfInBounds_toArray, List.set_cons_zero, List.set_cons_succ]
            refine wpAnyH_take (i := 5) (v := .agg #[.int .i64 x.f.n, .int .i64 x.f.tm, .int .i64 x.f.kd, .int .i64 x.f.st, .string ⟨x.f.lg.toArray⟩, .int .i64 x.f.rv, .int .i64 x.f.bs, .string ⟨x.f.ti.toArray⟩, .string ⟨x.f.au.toArray⟩, .slice x.ta x.tn x.tc, .slice x.ba x.bn x.bc, .int .i64 x.f.lb.u, .slice x.la x.ln x.lc, .int .i64 x.f.lb.ap, .int .i64 x.f.lb.d, .int .i64 x.f.ed, .int .i64 x.f.bk, .int .i64 x.f.se, .string ⟨x.f.tx.toArray⟩, .string ⟨x.f.nm.toArray⟩, .int .i64 x.f.pt, .int .i64 x.f.cl, .int .i64 x.f.un]) rfl (by kernel_rfl) (by kernel_rfl) (by kernel_rfl) (fun _ _ _ h => h) (yields_loadF _ b (off + k * 23) x (fun _ h => h.1) (by rfl) rfl rfl) h0 ?_
            try simp only [List.getElem_toArray, List.getElem_cons_succ, List.getElem_cons_zero, Act.put, List.setIfInBounds_toArray, List.set_cons_zero, List.set_cons_succ]
            refine wpAnyH_take (i := 6) (v := ?_) rfl (by kernel_rfl) (by kernel_rfl) (by kernel_rfl) (fun _ _ _ h => h) (Or.inl ⟨by rfl, ?_⟩) h0 ?_
            rotate_left
            · (intro w hSw; (try dsimp only at hSw); go_simp); all_goals (with_reducible rfl)
            try simp only [List.getElem_toArray, List.getElem_cons_succ, List.getElem_cons_zero, Act.put, List.setIfInBounds_toArray, List.set_cons_zero, List.set_cons_succ]
            refine wpAnyH_take (i := 7) (v := ?_) rfl (by kernel_rfl) (by kernel_rfl) (by kernel_rfl) (fun _ _ _ h => h) (Or.inl ⟨by rfl, ?_⟩) h0 ?_
            rotate_left
            · (intro w hSw; (try dsimp only at hSw); go_simp); all_goals (with_reducible rfl)
            try simp only [List.getElem_toArray, List.getElem_cons_succ, List.getElem_cons_zero, Act.put, List.setIfInBounds_toArray, List.set_cons_zero, List.set_cons_succ]
            refine wpAnyH_take (i := 8) (v := ?_) rfl (by kernel_rfl) (by kernel_rfl) (by kernel_rfl) (fun _ _ _ h => h) (Or.inl ⟨by rfl, ?_⟩) h0 ?_
            rotate_left
            · (intro w hSw; (try dsimp only at hSw); go_simp); all_goals (with_reducible rfl)
            try simp only [List.getElem_toArray, List.getElem_cons_succ, List.getElem_cons_zero, Act.put, List.setIfInBounds_toArray, List.set_cons_zero, List.set_cons_succ]
            refine wpAnyH_take (i := 9) (v := .agg #[.int .i64 y.f.n, .int .i64 y.f.tm, .int .i64 y.f.kd, .int .i64 y.f.st, .string ⟨y.f.lg.toArray⟩, .int .i64 y.f.rv, .int .i64 y.f.bs, .string ⟨y.f.ti.toArray⟩, .string ⟨y.f.au.toArray⟩, .slice y.ta y.tn y.tc, .slice y.ba y.bn y.bc, .int .i64 y.f.lb.u, .slice y.la y.ln y.lc, .int .i64 y.f.lb.ap, .int .i64 y.f.lb.d, .int .i64 y.f.ed, .int .i64 y.f.bk, .int .i64 y.f.se, .string ⟨y.f.tx.toArray⟩, .string ⟨y.f.nm.toArray⟩, .int .i64 y.f.pt, .int .i64 y.f.cl, .int .i64 y.f.un]) rfl (by kernel_rfl) (by kernel_rfl) (by kernel_rfl) (fun _ _ _ h => h) (yields_loadF _ b2 (off2 + k * 23) y (fun _ h => h.2) (by rfl) rfl rfl) h0 ?_
            try simp only [List.getElem_toArray, List.getElem_cons_succ, List.getElem_cons_zero, Act.put, List.setIfInBounds_toArray, List.set_cons_zero, List.set_cons_succ]
            refine wpAnyH_ready (rs := [10]) (by kernel_rfl) (by simp) ?_
            refine AllReadyH.cons rfl (fun K hK => ?_) AllReadyH.nil
            go_simp
            refine (KS.out _ OK1.out OK2.out).mono ?_
            rintro r wn ⟨rfl, bq⟩
            go_wp2_with fail
            replace R1 := Lib.hid (fun j v hv => cellOver bq (R1.out j v hv))
            replace R2 := Lib.hid (fun j v hv => cellOver bq (R2.out j v hv))
            have BW := Lib.hid (bel2 BD.out bq)
            have bS : wn.rangeAt b (off + k * 23) (elF x) ∧ wn.rangeAt b2 (off2 + k * 23) (elF y) := ⟨R1.out, R2.out⟩
            refine hK.out _ _ ?_ (fun h1 => ?_)
            · exact bS
            clear hK K h0 bS bq
            try simp only [List.getElem_toArray, List.getElem_cons_succ, List.getElem_cons_zero, Act.put, List.setIfInBounds_toArray, List.set_cons_zero, List.set_cons_succ]
            refine wpAnyH_take (i := 11) (v := ?_) rfl (by kernel_rfl) (by kernel_rfl) (by kernel_rfl) (fun _ _ _ h => h) (Or.inl ⟨by rfl, ?_⟩) h1 ?_
            rotate_left
            · (intro w hSw; (try dsimp only at hSw); go_simp); all_goals (with_reducible rfl)
            try simp only [List.getElem_toArray, List.getElem_cons_succ, List.getElem_cons_zero, Act.put, List.setIfInBounds_toArray, List.set_cons_zero, List.set_cons_succ]
            refine wpAnyH_take (i := 12) (v := ?_) rfl (by kernel_rfl) (by kernel_rfl) (by kernel_rfl) (fun _ _ _ h => h) (Or.inl ⟨by rfl, ?_⟩) h1 ?_
            rotate_left
            · (intro w hSw; (try dsimp only at hSw); go_simp); all_goals (with_reducible rfl)
            try simp only [List.getElem_toArray, List.getElem_cons_succ, List.getElem_cons_zero, Act.put, List.setIfInBounds_toArray, List.set_cons_zero, List.set_cons_succ]
            refine wpAnyH_done (by kernel_rfl) ?_ _
            clear h1
            go_wp2_with fail
            go_roundw
            case rel => exact ⟨k + 1, by omega, by go_num, by rw [HZ.out, HZK.out]; rfl, BW⟩
            case measure => simp [intOf]; omega
        · obtain rfl : mm = k := by omega
          have HE : Hid (zS (ds.map FE.f) (ds2.map FE.f) mm = sb) := Lib.hid (by rw [zS_end (by have := HMM.out; have h1 := L1.out.1; have h2 := L2.out.1; simp only [List.length_map]; omega)]; exact HSB.out)
          by_cases hmm3 : m ≤ m2
          · have g1 : ¬ ((mm : Int) < m) := by have := HMM.out; omega
            go_wp2_with fail
            go_meet
            exact ⟨by rw [HE.out], bw⟩
          · have g1 : (mm : Int) < m := by have := HMM.out; omega
            have g2 : ¬ ((mm : Int) < m2) := by have := HMM.out; omega
            go_wp2_with fail
            go_meet
            exact ⟨by rw [HE.out], bw⟩
    case rest =>
    obtain ⟨rfl, bw⟩ := hcut
    obtain ⟨w4, rfl⟩ : ∃ w4, w4 = wc := ⟨_, rfl⟩
    have L14 := Lib.hid (L1.out.over bw.out)
    have L24 := Lib.hid (L2.out.over bw.out)
    have KL := Lib.hid (samefacts _ _ _ _ _ _ _ _ w4 L14.out L24.out)
    rw [HSB.out] at KL
    replace B1 := Lib.hid (bel2 B1.out bw.out)
    clear HMM hmm1 hmm2 HZ0
    go_wp2_with fail
    refine KL.out.mono ?_
    rintro r w5 ⟨rfl, b5⟩
    replace L14 := Lib.hid (L14.out.over b5)
    replace B1 := Lib.hid (bel2 B1.out b5)
    clear b5 KL L24 bw
    by_cases hm0 : m = 0
    · have hmb : ((m : Int) == 0) = true := by simp [hm0]
      have HM0 := Lib.hid hm0
      clear hm0
      cases sb
      all_goals
        go_wp2_with fail
        go_ret
        exact ⟨rfl, B1.out⟩
    · have hmb : ((m : Int) == 0) = false := by simp [hm0]
      have KT1 := Lib.hid (fun (hv : vc = 1) => same_tail1 va m ds w5 (hv ▸ L14.out) hm0)
      have KT2 := Lib.hid (same_tail2 va m vc ds w5 L14.out hm0)
      clear L14
      cases sb
      all_goals
        go_wp2_with fail
        all_goals
          first | (with_reducible refine (KT1.out (by assumption)).mono ?_) | (with_reducible refine KT2.out.mono ?_)
          rintro r w6 ⟨rfl, b6⟩
          replace B1 := Lib.hid (bel2 B1.out b6)
          clear b6
          go_wp2_with fail
          go_ret
          exact ⟨rfl, B1.out⟩
  · obtain ⟨sb, HSB⟩ : ∃ sb, Hid (sFs (ds.map FE.f) (ds.map FE.f) = sb) := ⟨_, Lib.hid rfl⟩
    obtain ⟨mm, HMM, hmm1, hmm2⟩ : ∃ mm : Nat, Hid ((m ≤ m → mm = m) ∧ (¬ m ≤ m → mm = m)) ∧ mm ≤ m ∧ mm ≤ m := by
      by_cases hq : m ≤ m
      · exact ⟨m, Lib.hid ⟨fun _ => rfl, fun q => absurd hq q⟩, Nat.le_refl _, hq⟩
      · exact ⟨m, Lib.hid ⟨fun q => absurd q hq, fun _ => rfl⟩, by omega, Nat.le_refl _⟩
    have HZ0 : Hid (zS (ds.map FE.f) (ds.map FE.f) 0 = true) := Lib.hid (by rw [zS_zero]; simp)
    go_upto_block 4 with fail
    go_cut [12] (fun s12 wx => s12 = .bool sb ∧ Hid (Below w3.heap.size w3 wx))
    case first =>
      go_wp2_with fail
      go_loopw [13, 12] (fun i s wr => ∃ k : Nat, k ≤ mm ∧ i = .int .i64 k ∧ s = .bool (zS (ds.map FE.f) (ds.map FE.f) k) ∧ Hid (Below w3.heap.size w3 wr)) (fun i _ _ => mm - (intOf i).toNat)
      case atStart => exact ⟨0, Nat.zero_le _, rfl, by rw [HZ0.out], Lib.hid (Below.refl _ _)⟩
      case round =>
        obtain ⟨k, hk, rfl, rfl, bw⟩ := hrel
        by_cases hlt : k < mm
        · obtain ⟨x, hx⟩ : ∃ x, ds[k]? = some x := ⟨ds[k]'(by rw [L1.out.1]; omega), List.getElem?_eq_getElem _⟩
          obtain ⟨-, -, -, ok1, r1'⟩ := (L1.out.over bw.out).over (below_drew wr)
          obtain ⟨b, off, rfl, r1⟩ := r1'.resolve_left (by omega)
          have R1 : Hid (wr.drew.rangeAt b (off + k * 23) (elF x)) := Lib.hid (r1 k x hx)
          have OK1 := Lib.hid (ok1 x (List.mem_of_getElem? hx))
          have HZ : Hid (zS (ds.map FE.f) (ds.map FE.f) (k + 1) = (zS (ds.map FE.f) (ds.map FE.f) k && sF x.f x.f)) := Lib.hid (zS_succ (by rw [List.getElem?_map, hx]; rfl) (by rw [List.getElem?_map, hx]; rfl))
          have g1 : (k : Int) < m := by omega
          have g2 : (k : Int) < m := by omega
          have g3 : k < m := by omega
          have g4 : k < m := by omega
          have BD := Lib.hid (bel2 bw.out (below_drew wr))
          clear hx r1' r1 ok1 bw
          cases hz : zS (ds.map FE.f) (ds.map FE.f) k
          · have HZK := Lib.hid hz
            clear hz
            go_upto_region 18 with fail
            refine wp_region_held_drew (S := fun w' => w'.rangeAt b (off + k * 23) (elF x)) (by kernel_rfl) ?_ (fun h0 => ?_)
            · exact R1.out
            refine wpAnyH_take (i := 0) (v := ?_) rfl (by kernel_rfl) (by kernel_rfl) (by kernel_rfl) (fun _ _ _ h => h) (Or.inl ⟨by rfl, ?_⟩) h0 ?_
            rotate_left
            · (intro w hSw; (try dsimp only at hSw); go_simp); all_goals (with_reducible rfl)
            try simp only [List.getElem_toArray, List.getElem_cons_succ, List.getElem_cons_zero, Act.put, List.setIfInBounds_toArray, List.set_cons_zero, List.set_cons_succ]
            refine wpAnyH_take (i := 1) (v := ?_) rfl (by kernel_rfl) (by kernel_rfl) (by kernel_rfl) (fun _ _ _ h => h) (Or.inl ⟨by rfl, ?_⟩) h0 ?_
            rotate_left
            · (intro w hSw; (try dsimp only at hSw); go_simp); all_goals (with_reducible rfl)
            try simp only [List.getElem_toArray, List.getElem_cons_succ, List.getElem_cons_zero, Act.put, List.setIfInBounds_toArray, List.set_cons_zero, List.set_cons_succ]
            refine wpAnyH_take (i := 2) (v := undef) rfl (by kernel_rfl) (by kernel_rfl) (by kernel_rfl) (fun _ _ _ h => h) (Or.inr ⟨by rfl, rfl⟩) h0 ?_
            try simp only [List.getElem_toArray, List.getElem_cons_succ, List.getElem_cons_zero, Act.put, List.setIfInBounds_toArray, List.set_cons_zero, List.set_cons_succ]
            refine wpAnyH_take (i := 3) (v := undef) rfl (by kernel_rfl) (by kernel_rfl) (by kernel_rfl) (fun _ _ _ h => h) (Or.inr ⟨by rfl, rfl⟩) h0 ?_
            try simp only [List.getElem_toArray, List.getElem_cons_succ, List.getElem_cons_zero, Act.put, List.setIfInBounds_toArray, List.set_cons_zero, List.set_cons_succ]
            refine wpAnyH_take (i := 4) (v := undef) rfl (by kernel_rfl) (by kernel_rfl) (by kernel_rfl) (fun _ _ _ h => h) (Or.inr ⟨by rfl, rfl⟩) h0 ?_
            try simp only [List.getElem_toArray, List.getElem_cons_succ, List.getElem_cons_zero, Act.put, List.setIfInBounds_toArray, List.set_cons_zero, List.set_cons_succ]
            refine wpAnyH_take (i := 5) (v := undef) rfl (by kernel_rfl) (by kernel_rfl) (by kernel_rfl) (fun _ _ _ h => h) (Or.inr ⟨by rfl, rfl⟩) h0 ?_
            try simp only [List.getElem_toArray, List.getElem_cons_succ, List.getElem_cons_zero, Act.put, List.setIfInBounds_toArray, List.set_cons_zero, List.set_cons_succ]
            refine wpAnyH_take (i := 6) (v := undef) rfl (by kernel_rfl) (by kernel_rfl) (by kernel_rfl) (fun _ _ _ h => h) (Or.inr ⟨by rfl, rfl⟩) h0 ?_
            try simp only [List.getElem_toArray, List.getElem_cons_succ, List.getElem_cons_zero, Act.put, List.setIfInBounds_toArray, List.set_cons_zero, List.set_cons_succ]
            refine wpAnyH_take (i := 7) (v := undef) rfl (by kernel_rfl) (by kernel_rfl) (by kernel_rfl) (fun _ _ _ h => h) (Or.inr ⟨by rfl, rfl⟩) h0 ?_
            try simp only [List.getElem_toArray, List.getElem_cons_succ, List.getElem_cons_zero, Act.put, List.setIfInBounds_toArray, List.set_cons_zero, List.set_cons_succ]
            refine wpAnyH_take (i := 8) (v := undef) rfl (by kernel_rfl) (by kernel_rfl) (by kernel_rfl) (fun _ _ _ h => h) (Or.inr ⟨by rfl, rfl⟩) h0 ?_
            try simp only [List.getElem_toArray, List.getElem_cons_succ, List.getElem_cons_zero, Act.put, List.setIfInBounds_toArray, List.set_cons_zero, List.set_cons_succ]
            refine wpAnyH_take (i := 9) (v := undef) rfl (by kernel_rfl) (by kernel_rfl) (by kernel_rfl) (fun _ _ _ h => h) (Or.inr ⟨by rfl, rfl⟩) h0 ?_
            try simp only [List.getElem_toArray, List.getElem_cons_succ, List.getElem_cons_zero, Act.put, List.setIfInBounds_toArray, List.set_cons_zero, List.set_cons_succ]
            refine wpAnyH_take (i := 10) (v := undef) rfl (by kernel_rfl) (by kernel_rfl) (by kernel_rfl) (fun _ _ _ h => h) (Or.inr ⟨by rfl, rfl⟩) h0 ?_
            try simp only [List.getElem_toArray, List.getElem_cons_succ, List.getElem_cons_zero, Act.put, List.setIfInBounds_toArray, List.set_cons_zero, List.set_cons_succ]
            refine wpAnyH_take (i := 11) (v := ?_) rfl (by kernel_rfl) (by kernel_rfl) (by kernel_rfl) (fun _ _ _ h => h) (Or.inl ⟨by rfl, ?_⟩) h0 ?_
            rotate_left
            · (intro w hSw; (try dsimp only at hSw); go_simp); all_goals (with_reducible rfl)
            try simp only [List.getElem_toArray, List.getElem_cons_succ, List.getElem_cons_zero, Act.put, List.setIfInBounds_toArray, List.set_cons_zero, List.set_cons_succ]
            refine wpAnyH_take (i := 12) (v := ?_) rfl (by kernel_rfl) (by kernel_rfl) (by kernel_rfl) (fun _ _ _ h => h) (Or.inl ⟨by rfl, ?_⟩) h0 ?_
            rotate_left
            · (intro w hSw; (try dsimp only at hSw); go_simp); all_goals (with_reducible rfl)
            try simp only [List.getElem_toArray, List.getElem_cons_succ, List.getElem_cons_zero, Act.put, List.setIfInBounds_toArray, List.set_cons_zero, List.set_cons_succ]
            refine wpAnyH_done (by kernel_rfl) ?_ _
            clear h0
            go_wp2_with fail
            go_roundw
            case rel => exact ⟨k + 1, by omega, by go_num, by rw [HZ.out, HZK.out]; rfl, BD⟩
            case measure => simp [intOf]; omega
          · have HZK := Lib.hid hz
            clear hz
            have KS := Lib.hid (fun W h1 h2 => kSt x x W h1 h2 (sF x.f x.f) rfl)
            go_upto_region 18 with fail
            refine wp_region_held_drew (S := fun w' => w'.rangeAt b (off + k * 23) (elF x)) (by kernel_rfl) ?_ (fun h0 => ?_)
            · exact R1.out
            refine wpAnyH_take (i := 0) (v := ?_) rfl (by kernel_rfl) (by kernel_rfl) (by kernel_rfl) (fun _ _ _ h => h) (Or.inl ⟨by rfl, ?_⟩) h0 ?_
            rotate_left
            · (intro w hSw; (try dsimp only at hSw); go_simp); all_goals (with_reducible rfl)
            try simp only [List.getElem_toArray, List.getElem_cons_succ, List.getElem_cons_zero, Act.put, List.setIfInBounds_toArray, List.set_cons_zero, List.set_cons_succ]
            refine wpAnyH_take (i := 1) (v := ?_) rfl (by kernel_rfl) (by kernel_rfl) (by kernel_rfl) (fun _ _ _ h => h) (Or.inl ⟨by rfl, ?_⟩) h0 ?_
            rotate_left
            · (intro w hSw; (try dsimp only at hSw); go_simp); all_goals (with_reducible rfl)
            try simp only [List.getElem_toArray, List.getElem_cons_succ, List.getElem_cons_zero, Act.put, List.setIfInBounds_toArray, List.set_cons_zero, List.set_cons_succ]
            refine wpAnyH_take (i := 2) (v := ?_) rfl (by kernel_rfl) (by kernel_rfl) (by kernel_rfl) (fun _ _ _ h => h) (Or.inl ⟨by rfl, ?_⟩) h0 ?_
            rotate_left
            · (intro w hSw; (try dsimp only at hSw); go_simp); all_goals (with_reducible rfl)
            try simp only [List.getElem_toArray, List.getElem_cons_succ, List.getElem_cons_zero, Act.put, List.setIfInBounds_toArray, List.set_cons_zero, List.set_cons_succ]
            refine wpAnyH_take (i := 3) (v := ?_) rfl (by kernel_rfl) (by kernel_rfl) (by kernel_rfl) (fun _ _ _ h => h) (Or.inl ⟨by rfl, ?_⟩) h0 ?_
            rotate_left
            · (intro w hSw; (try dsimp only at hSw); go_simp); all_goals (with_reducible rfl)
            try simp only [List.getElem_toArray, List.getElem_cons_succ, List.getElem_cons_zero, Act.put, List.setIfInBounds_toArray, List.set_cons_zero, List.set_cons_succ]
            refine wpAnyH_take (i := 4) (v := ?_) rfl (by kernel_rfl) (by kernel_rfl) (by kernel_rfl) (fun _ _ _ h => h) (Or.inl ⟨by rfl, ?_⟩) h0 ?_
            rotate_left
            · (intro w hSw; (try dsimp only at hSw); go_simp); all_goals (with_reducible rfl)
            try simp only [List.getElem_toArray, List.getElem_cons_succ, List.getElem_cons_zero, Act.put, List.setIfInBounds_toArray, List.set_cons_zero, List.set_cons_succ]
            refine wpAnyH_take (i := 5) (v := .agg #[.int .i64 x.f.n, .int .i64 x.f.tm, .int .i64 x.f.kd, .int .i64 x.f.st, .string ⟨x.f.lg.toArray⟩, .int .i64 x.f.rv, .int .i64 x.f.bs, .string ⟨x.f.ti.toArray⟩, .string ⟨x.f.au.toArray⟩, .slice x.ta x.tn x.tc, .slice x.ba x.bn x.bc, .int .i64 x.f.lb.u, .slice x.la x.ln x.lc, .int .i64 x.f.lb.ap, .int .i64 x.f.lb.d, .int .i64 x.f.ed, .int .i64 x.f.bk, .int .i64 x.f.se, .string ⟨x.f.tx.toArray⟩, .string ⟨x.f.nm.toArray⟩, .int .i64 x.f.pt, .int .i64 x.f.cl, .int .i64 x.f.un]) rfl (by kernel_rfl) (by kernel_rfl) (by kernel_rfl) (fun _ _ _ h => h) (yields_loadF _ b (off + k * 23) x (fun _ h => h) (by rfl) rfl rfl) h0 ?_
            try simp only [List.getElem_toArray, List.getElem_cons_succ, List.getElem_cons_zero, Act.put, List.setIfInBounds_toArray, List.set_cons_zero, List.set_cons_succ]
            refine wpAnyH_take (i := 6) (v := ?_) rfl (by kernel_rfl) (by kernel_rfl) (by kernel_rfl) (fun _ _ _ h => h) (Or.inl ⟨by rfl, ?_⟩) h0 ?_
            rotate_left
            · (intro w hSw; (try dsimp only at hSw); go_simp); all_goals (with_reducible rfl)
            try simp only [List.getElem_toArray, List.getElem_cons_succ, List.getElem_cons_zero, Act.put, List.setIfInBounds_toArray, List.set_cons_zero, List.set_cons_succ]
            refine wpAnyH_take (i := 7) (v := ?_) rfl (by kernel_rfl) (by kernel_rfl) (by kernel_rfl) (fun _ _ _ h => h) (Or.inl ⟨by rfl, ?_⟩) h0 ?_
            rotate_left
            · (intro w hSw; (try dsimp only at hSw); go_simp); all_goals (with_reducible rfl)
            try simp only [List.getElem_toArray, List.getElem_cons_succ, List.getElem_cons_zero, Act.put, List.setIfInBounds_toArray, List.set_cons_zero, List.set_cons_succ]
            refine wpAnyH_take (i := 8) (v := ?_) rfl (by kernel_rfl) (by kernel_rfl) (by kernel_rfl) (fun _ _ _ h => h) (Or.inl ⟨by rfl, ?_⟩) h0 ?_
            rotate_left
            · (intro w hSw; (try dsimp only at hSw); go_simp); all_goals (with_reducible rfl)
            try simp only [List.getElem_toArray, List.getElem_cons_succ, List.getElem_cons_zero, Act.put, List.setIfInBounds_toArray, List.set_cons_zero, List.set_cons_succ]
            refine wpAnyH_take (i := 9) (v := .agg #[.int .i64 x.f.n, .int .i64 x.f.tm, .int .i64 x.f.kd, .int .i64 x.f.st, .string ⟨x.f.lg.toArray⟩, .int .i64 x.f.rv, .int .i64 x.f.bs, .string ⟨x.f.ti.toArray⟩, .string ⟨x.f.au.toArray⟩, .slice x.ta x.tn x.tc, .slice x.ba x.bn x.bc, .int .i64 x.f.lb.u, .slice x.la x.ln x.lc, .int .i64 x.f.lb.ap, .int .i64 x.f.lb.d, .int .i64 x.f.ed, .int .i64 x.f.bk, .int .i64 x.f.se, .string ⟨x.f.tx.toArray⟩, .string ⟨x.f.nm.toArray⟩, .int .i64 x.f.pt, .int .i64 x.f.cl, .int .i64 x.f.un]) rfl (by kernel_rfl) (by kernel_rfl) (by kernel_rfl) (fun _ _ _ h => h) (yields_loadF _ b (off + k * 23) x (fun _ h => h) (by rfl) rfl rfl) h0 ?_
            try simp only [List.getElem_toArray, List.getElem_cons_succ, List.getElem_cons_zero, Act.put, List.setIfInBounds_toArray, List.set_cons_zero, List.set_cons_succ]
            refine wpAnyH_ready (rs := [10]) (by kernel_rfl) (by simp) ?_
            refine AllReadyH.cons rfl (fun K hK => ?_) AllReadyH.nil
            go_simp
            refine (KS.out _ OK1.out OK1.out).mono ?_
            rintro r wn ⟨rfl, bq⟩
            go_wp2_with fail
            replace R1 := Lib.hid (fun j v hv => cellOver bq (R1.out j v hv))
            have BW := Lib.hid (bel2 BD.out bq)
            have bS : wn.rangeAt b (off + k * 23) (elF x) := R1.out
            refine hK.out _ _ ?_ (fun h1 => ?_)
            · exact bS
            clear hK K h0 bS bq
            try simp only [List.getElem_toArray, List.getElem_cons_succ, List.getElem_cons_zero, Act.put, List.setIfInBounds_toArray, List.set_cons_zero, List.set_cons_succ]
            refine wpAnyH_take (i := 11) (v := ?_) rfl (by kernel_rfl) (by kernel_rfl) (by kernel_rfl) (fun _ _ _ h => h) (Or.inl ⟨by rfl, ?_⟩) h1 ?_
            rotate_left
            · (intro w hSw; (try dsimp only at hSw); go_simp); all_goals (with_reducible rfl)
            try simp only [List.getElem_toArray, List.getElem_cons_succ, List.getElem_cons_zero, Act.put, List.setIfInBounds_toArray, List.set_cons_zero, List.set_cons_succ]
            refine wpAnyH_take (i := 12) (v := ?_) rfl (by kernel_rfl) (by kernel_rfl) (by kernel_rfl) (fun _ _ _ h => h) (Or.inl ⟨by rfl, ?_⟩) h1 ?_
            rotate_left
            · (intro w hSw; (try dsimp only at hSw); go_simp); all_goals (with_reducible rfl)
            try simp only [List.getElem_toArray, List.getElem_cons_succ, List.getElem_cons_zero, Act.put, List.setIfInBounds_toArray, List.set_cons_zero, List.set_cons_succ]
            refine wpAnyH_done (by kernel_rfl) ?_ _
            clear h1
            go_wp2_with fail
            go_roundw
            case rel => exact ⟨k + 1, by omega, by go_num, by rw [HZ.out, HZK.out]; rfl, BW⟩
            case measure => simp [intOf]; omega
        · obtain rfl : mm = k := by omega
          have HE : Hid (zS (ds.map FE.f) (ds.map FE.f) mm = sb) := Lib.hid (by rw [zS_end (by have := HMM.out; have h1 := L1.out.1; have h2 := L1.out.1; simp only [List.length_map]; omega)]; exact HSB.out)
          have g1 : ¬ ((mm : Int) < m) := by have := HMM.out; omega
          go_wp2_with fail
          go_meet
          exact ⟨by rw [HE.out], bw⟩
    case rest =>
    obtain ⟨rfl, bw⟩ := hcut
    obtain ⟨w4, rfl⟩ : ∃ w4, w4 = wc := ⟨_, rfl⟩
    have L14 := Lib.hid (L1.out.over bw.out)
    have L24 := Lib.hid (L1.out.over bw.out)
    have KL := Lib.hid (samefacts _ _ _ _ _ _ _ _ w4 L14.out L24.out)
    rw [HSB.out] at KL
    replace B1 := Lib.hid (bel2 B1.out bw.out)
    clear HMM hmm1 hmm2 HZ0
    go_wp2_with fail
    refine KL.out.mono ?_
    rintro r w5 ⟨rfl, b5⟩
    replace L14 := Lib.hid (L14.out.over b5)
    replace B1 := Lib.hid (bel2 B1.out b5)
    clear b5 KL L24 bw
    by_cases hm0 : m = 0
    · have hmb : ((m : Int) == 0) = true := by simp [hm0]
      have HM0 := Lib.hid hm0
      clear hm0
      cases sb
      all_goals
        go_wp2_with fail
        go_ret
        exact ⟨rfl, B1.out⟩
    · have hmb : ((m : Int) == 0) = false := by simp [hm0]
      have KT1 := Lib.hid (fun (hv : vc = 1) => same_tail1 va m ds w5 (hv ▸ L14.out) hm0)
      have KT2 := Lib.hid (same_tail2 va m vc ds w5 L14.out hm0)
      clear L14
      cases sb
      all_goals
        go_wp2_with fail
        all_goals
          first | (with_reducible refine (KT1.out (by assumption)).mono ?_) | (with_reducible refine KT2.out.mono ?_)
          rintro r w6 ⟨rfl, b6⟩
          replace B1 := Lib.hid (bel2 B1.out b6)
          clear b6
          go_wp2_with fail
          go_ret
          exact ⟨rfl, B1.out⟩
end Go.Proofs.YtlhcckjfgpcohaaGreatDoor
