/- From a walk of a statement's text to the row: what every row of this seat needs. A start for the witness of every row of this seat: the listed tables laid. A slice of blocks as an argument, opened at every index. A fact as an argument. -/
import Derived.Test.YtlhcckjfgpcohaaGreatDoorRows
import Derived.WalkKit
import Derived.ProofKit
import Derived.OpenShut
import Derived.ShutString
import Derived.ChangeOld
import Derived.Below
import Derived.Carry
import Derived.Deep.DeepHandedRow
import Derived.LaidMore
import Derived.Stop.Joined
import Derived.Lay
import Derived.LaidHandle
import Derived.MakeChecks
import Derived.Test.YtlhcckjfgpcohaaGreatDoorBlkL
import Derived.Deep.Slices
import Derived.Test.YtlhcckjfgpcohaaGreatDoorU1
namespace Go.Proofs.YtlhcckjfgpcohaaGreatDoor
open Go.ChangeShapes Go.WideShapes Go.ChangeAt Go.RowKit
open Go.ChangeMaps (open_string shut_string)
theorem own : ownKnob Tryz.prog.godebug = none := by kernel_rfl
theorem laidOut : laidOutB Tryz.prog = true := by kernel_rfl
/-- The arguments read again behind a call that has written nothing that was there. -/
theorem trodAll_below {H : Type} {enc : TypeId × Value → H} {P : Program} (hl : laidOutB P = true) {W W' : World} (hb : Below W.heap.size W W') :
    ∀ {ts : List TypeId} {vs : List Value} {ds : List (DataW H)} {ps : List MemPlace}, (ts.all fun t => P.readableRec t && decide (t < P.types.size)) = true →
      DataW.TrodAll enc P W 0 (fun _ => true) true ts vs ds ps → DataW.TrodAll enc P W' 0 (fun b => decide (b < W.heap.size)) true ts vs ds ps
  | [], _, _, _, _, h => by
    obtain ⟨rfl, rfl, rfl⟩ := trodAll_nil h
    exact trodAll_mk0
  | t :: ts, _, _, _, hr, h => by
    obtain ⟨v, vs, d, ds, p, q, rfl, rfl, rfl, h0, h1⟩ := trodAll_cons h
    simp only [List.all_cons, Bool.and_eq_true, decide_eq_true_eq] at hr
    have lt : ∀ x ∈ p, x.block < W.heap.size := by
      obtain ⟨m, hm⟩ := h0
      exact DataW.trod_lt m _ _ _ hm
    exact trodAll_cons_mk (Below.trod hl hr.1.1 hr.1.2 h0 hb lt) (trodAll_below hl hb (by simpa using hr.2) h1)
section
variable {H : Type} {enc : TypeId × Value → H} {P : Program} {w : World} {b0 base : Nat} {spare : Nat → Bool} {held : Bool}
theorem okWide_arr {r : Reach} {t e : TypeId} {n : Nat} {v : Value} (ht : P.underlying t = some (.array n e)) (h : Value.okWide P w r b0 t v) : ∃ cs, v = .agg cs ∧ cs.size = P.cellsOf t := by
  simp only [Value.okWide, ht] at h
  obtain ⟨cs, h1, h2, _⟩ := h
  exact ⟨cs, h1, h2⟩
/-- An array of two strings by value. -/
theorem open_str2 {r : Reach} {t e : TypeId} {v : Value} {d : DataW H} {p : List MemPlace} (ht : P.underlying t = some (.array 2 e)) (he : P.underlying e = some .string) (hc : P.cellsOf t = 2) (hce : P.cellsOf e = 1)
    (hv : Value.okWide P w r b0 t v) (h : DataW.Trod enc P w base spare held t v d p) :
    ∃ s0 s1 : ByteArray, v = .agg #[.string s0, .string s1] ∧ s0.size ≤ maxLen ∧ s1.size ≤ maxLen ∧ d = .agg [.lit (.string s0.data.toList), .lit (.string s1.data.toList)] ∧ p = [] := by
  obtain ⟨cs, rfl, hsz⟩ := okWide_arr ht hv
  rw [hc] at hsz
  obtain ⟨cl⟩ := cs
  match cl, hsz with
  | [c0, c1], _ =>
    obtain ⟨fuel, hf⟩ := h
    obtain ⟨xs, m, _, hx, _, hn, hel⟩ := DataW.trod_array ht hf
    match xs, hn with
    | [x0, x1], _ =>
      have e0 := hel 0 (by decide)
      have e1 := hel 1 (by decide)
      simp only [hce, Value.cells] at e0 e1
      simp at e0 e1
      obtain ⟨s0, h0, rfl, l0⟩ := DataW.trod_string he e0
      obtain ⟨s1, h1, rfl, l1⟩ := DataW.trod_string he e1
      simp at h0 h1
      subst h0 h1
      simp at hx
      exact ⟨s0, s1, rfl, l0, l1, hx.1, hx.2⟩
end
end Go.Proofs.YtlhcckjfgpcohaaGreatDoor
namespace Go.Proofs.YtlhcckjfgpcohaaGreatDoor
set_option maxRecDepth 100000
def seatLaid : List (String × DataW Unit) := [("unicode/utf8.acceptRanges", Rows.laid_unicode_utf8_acceptRanges), ("unicode/utf8.first", Rows.laid_unicode_utf8_first)]
noncomputable def seatW (os : Os) : World := World.laidAll Tryz.prog os seatLaid
theorem seat_met (os : Os) (args : Array Value) : laidMetH Tryz.prog seatLaid ((seatW os).forCall (fun _ _ => 0) ⟨#[], args, []⟩).memory := by
  rw [MakeChecks.laidMetH_plain _ _ _ (by kernel_rfl)]; exact laidMet_laidAll _ (by kernel_rfl) (by kernel_rfl)
theorem seat_vars (os : Os) (args : Array Value) : ((seatW os).forCall (fun _ _ => 0) ⟨#[], args, []⟩).variablesB Tryz.prog = true := by kernel_rfl
theorem seat_rest (os : Os) (args : Array Value) : (((seatW os).forCall (fun _ _ => 0) ⟨#[], args, []⟩).heap.toList.drop Tryz.prog.globals.size).take ((begin Tryz.prog (fun _ _ => 0) default).world.heap.size - Tryz.prog.globals.size) =
      (begin Tryz.prog (fun _ _ => 0) default).world.heap.toList.drop Tryz.prog.globals.size := by kernel_rfl
end Go.Proofs.YtlhcckjfgpcohaaGreatDoor
namespace Go.Proofs.YtlhcckjfgpcohaaGreatDoor
open Go.ChangeShapes Go.WideShapes Go.ChangeAt Go.RowKit Go.Deep
set_option maxRecDepth 100000
set_option linter.unusedVariables false
theorem cells26 : Tryz.prog.cellsOf 49 = 9 := by kernel_rfl
theorem cells24 : Tryz.prog.cellsOf 26 = 4 := by kernel_rfl
theorem cellsI : Tryz.prog.cellsOf 3 = 1 := by kernel_rfl
theorem cells9 : Tryz.prog.cellsOf 9 = 1 := by kernel_rfl
theorem cells22 : Tryz.prog.cellsOf 24 = 1 := by kernel_rfl
section
variable {H : Type} {enc : TypeId × Value → H} {w : World} {b0 base : Nat} {spare : Nat → Bool} {held : Bool}
theorem open_intsC {P : Program} {t e : TypeId} {k : IntKind} {fuel : Nat} {cs : List Value} {x : DataW H × List MemPlace} (ht : P.underlying t = some (.slice e)) (he : P.underlying e = some (.int k)) (hc : P.cellsOf e = 1)
    (hf : DataW.trod enc P w base spare held fuel t cs = some x) : ∃ (a : Option Addr) (n c : Nat) (zs : List Int), cs = [.slice a n c] ∧ IsInts k w a n c zs := by
  rcases ChangeShapes.open_ints ht he hc hf with ⟨h1, _⟩ | ⟨a1, n1, c1, zs, h1, _, hn, hm, hz, _, hcell, hwf⟩
  · exact ⟨none, 0, 0, [], h1, rfl, Nat.le_refl _, by unfold maxLen; omega, (fun z hz => by cases hz), Or.inl rfl⟩
  · have hle : n1 ≤ zs.length := by rw [hz]; split <;> omega
    refine ⟨some a1, n1, c1, zs.take n1, h1, by simp; omega, hn, hm, fun z h => hwf z (List.mem_of_mem_take h), ?_⟩
    rcases Nat.eq_zero_or_pos n1 with h0 | h0
    · exact .inl h0
    · have hs := World.cell?_spot (hcell 0 (by omega))
      obtain ⟨b, off, spot⟩ := a1
      obtain rfl : spot = none := by simpa [Addr.add] using hs
      exact .inr ⟨b, off, rfl, fun i hi => by rw [getD_take _ _ _ _ hi, ← add_at]; exact hcell i (by omega)⟩
theorem bd_int {fuel : Nat} {cs : List Value} {x : DataW H × List MemPlace} (h : DataW.trod enc Tryz.prog w base spare held fuel 3 cs = some x) : ∃ n, cs = [.int .i64 n] ∧ Bd n := by
  obtain ⟨n, h1, _, h2⟩ := DataW.trod_int Tryz.underlying3 h
  exact ⟨n, h1, wf64 h2⟩
theorem open_blockC {fuel : Nat} {cs : List Value} {x : DataW H × List MemPlace} (h : DataW.trod enc Tryz.prog w base spare held fuel 49 cs = some x) : ∃ e : BE, cs = elB e ∧ BeOk w e := by
  obtain ⟨xs, m, _, _, hl, hn, hel⟩ := DataW.trod_struct Tryz.underlying49 h
  rw [cells26] at hl
  match cs, hl with
  | [v0, v1, v2, v3, v4, v5, v6, v7, v8], _ =>
    match xs, hn with
    | [x0, x1, x2, x3, x4, x5], _ =>
      have e0 : DataW.trod enc Tryz.prog w base spare held m 3 [v0] = some x0 := by
        have q : DataW.trod enc Tryz.prog w base spare held m 3 (([v0, v1, v2, v3, v4, v5, v6, v7, v8].drop 0).take (Tryz.prog.cellsOf 3)) = some x0 := hel 0 _ rfl
        rw [cellsI] at q
        exact q
      have e1 : DataW.trod enc Tryz.prog w base spare held m 3 [v1] = some x1 := by
        have q : DataW.trod enc Tryz.prog w base spare held m 3 (([v0, v1, v2, v3, v4, v5, v6, v7, v8].drop 1).take (Tryz.prog.cellsOf 3)) = some x1 := hel 1 _ rfl
        rw [cellsI] at q
        exact q
      have e2 : DataW.trod enc Tryz.prog w base spare held m 9 [v2] = some x2 := by
        have q : DataW.trod enc Tryz.prog w base spare held m 9 (([v0, v1, v2, v3, v4, v5, v6, v7, v8].drop 2).take (Tryz.prog.cellsOf 9)) = some x2 := hel 2 _ rfl
        rw [cells9] at q
        exact q
      have e3 : DataW.trod enc Tryz.prog w base spare held m 3 [v3] = some x3 := by
        have q : DataW.trod enc Tryz.prog w base spare held m 3 (([v0, v1, v2, v3, v4, v5, v6, v7, v8].drop 3).take (Tryz.prog.cellsOf 3)) = some x3 := hel 3 _ rfl
        rw [cellsI] at q
        exact q
      have e4 : DataW.trod enc Tryz.prog w base spare held m 3 [v4] = some x4 := by
        have q : DataW.trod enc Tryz.prog w base spare held m 3 (([v0, v1, v2, v3, v4, v5, v6, v7, v8].drop 4).take (Tryz.prog.cellsOf 3)) = some x4 := hel 4 _ rfl
        rw [cellsI] at q
        exact q
      have e5 : DataW.trod enc Tryz.prog w base spare held m 26 [v5, v6, v7, v8] = some x5 := by
        have q : DataW.trod enc Tryz.prog w base spare held m 26 (([v0, v1, v2, v3, v4, v5, v6, v7, v8].drop 5).take (Tryz.prog.cellsOf 26)) = some x5 := hel 5 _ rfl
        rw [cells24] at q
        exact q
      obtain ⟨i0, h0, d0⟩ := bd_int e0
      obtain ⟨i1, h1, d1⟩ := bd_int e1
      obtain ⟨s, h2, _, d2⟩ := DataW.trod_string Tryz.underlying9 e2
      obtain ⟨i3, h3, d3⟩ := bd_int e3
      obtain ⟨i4, h4, d4⟩ := bd_int e4
      obtain ⟨ys, m', _, _, hl', hn', hel'⟩ := DataW.trod_struct Tryz.underlying26 e5
      match ys, hn' with
      | [y0, y1, y2, y3], _ =>
        have f0 : DataW.trod enc Tryz.prog w base spare held m' 3 [v5] = some y0 := by
          have q : DataW.trod enc Tryz.prog w base spare held m' 3 (([v5, v6, v7, v8].drop 0).take (Tryz.prog.cellsOf 3)) = some y0 := hel' 0 _ rfl
          rw [cellsI] at q
          exact q
        have f1 : DataW.trod enc Tryz.prog w base spare held m' 24 [v6] = some y1 := by
          have q : DataW.trod enc Tryz.prog w base spare held m' 24 (([v5, v6, v7, v8].drop 1).take (Tryz.prog.cellsOf 24)) = some y1 := hel' 1 _ rfl
          rw [cells22] at q
          exact q
        have f2 : DataW.trod enc Tryz.prog w base spare held m' 3 [v7] = some y2 := by
          have q : DataW.trod enc Tryz.prog w base spare held m' 3 (([v5, v6, v7, v8].drop 2).take (Tryz.prog.cellsOf 3)) = some y2 := hel' 2 _ rfl
          rw [cellsI] at q
          exact q
        have f3 : DataW.trod enc Tryz.prog w base spare held m' 3 [v8] = some y3 := by
          have q : DataW.trod enc Tryz.prog w base spare held m' 3 (([v5, v6, v7, v8].drop 3).take (Tryz.prog.cellsOf 3)) = some y3 := hel' 3 _ rfl
          rw [cellsI] at q
          exact q
        obtain ⟨j0, g0, k0⟩ := bd_int f0
        obtain ⟨a, n, c, zs, g1, k1⟩ := open_intsC Tryz.underlying24 Tryz.underlying3 cellsI f1
        obtain ⟨j2, g2, k2⟩ := bd_int f2
        obtain ⟨j3, g3, k3⟩ := bd_int f3
        simp at h0 h1 h2 h3 h4 g0 g1 g2 g3
        subst h0 h1 h2 h3 h4 g0 g1 g2 g3
        refine ⟨(⟨i0, i1, s.data.toList, i3, i4, ⟨j0, zs, j2, j3⟩⟩, a, n, c), by simp [elB], ⟨k1, k0, k2, k3⟩, by simpa using d2, d0, d1, d3, d4⟩
theorem open_blks {r : Reach} {v : Value} {d : DataW H} {p : List MemPlace} (hv : Value.okWide Tryz.prog w r b0 23 v) (h : DataW.Trod enc Tryz.prog w base spare held 23 v d p) :
    ∃ (a : Option Addr) (n c : Nat) (es : List BE), v = .slice a n c ∧ IsBlks w a n c es := by
  obtain ⟨a, n, c, rfl⟩ := WideShapes.okWide_slice Tryz.underlying23 hv
  obtain ⟨fuel, hf⟩ := h
  refine ⟨a, n, c, ?_⟩
  rcases open_slice Tryz.underlying23 hf with ⟨h1, _⟩ | ⟨a1, n1, c1, m, fu, D, Pl, h1, _, hn, hm, hz, _, hcell⟩
  · simp [Value.cells] at h1
    obtain ⟨rfl, rfl, rfl⟩ := h1
    exact ⟨[], rfl, rfl, Nat.le_refl _, by unfold maxLen; omega, (fun z hz => by cases hz), Or.inl rfl⟩
  · simp [Value.cells] at h1
    obtain ⟨rfl, rfl, rfl⟩ := h1
    have hle : n ≤ m := by rw [hz]; split <;> omega
    rw [cells26] at hcell
    have hall : ∀ i, i < n → ∃ e : BE, BeOk w e ∧ ∀ j v, (elB e)[j]? = some v → w.cell? ((a1.add (i * 9)).add j) = some v := by
      intro i hi
      obtain ⟨cs', hc, ht⟩ := hcell i (by omega)
      obtain ⟨e, rfl, hok⟩ := open_blockC ht
      obtain ⟨_, hlen, hg⟩ := World.cells?_some hc
      refine ⟨e, hok, fun j v hj => ?_⟩
      rw [hg j (by rw [← hlen]; exact (List.getElem?_eq_some_iff.1 hj).1)]
      exact hj
    haveI : Inhabited BE := ⟨(⟨0, 0, [], 0, 0, ⟨0, [], 0, 0⟩⟩, none, 0, 0)⟩
    obtain ⟨f, hf'⟩ := choose_lt hall
    refine ⟨(List.range n).map f, rfl, by simp, hn, hm, fun e he => ?_, ?_⟩
    · obtain ⟨i, hi, rfl⟩ := List.mem_map.1 he
      exact (hf' i (List.mem_range.1 hi)).1
    · rcases Nat.eq_zero_or_pos n with h0 | h0
      · exact .inl h0
      · have hs := World.cell?_spot ((hf' 0 h0).2 0 _ rfl)
        obtain ⟨b, off, spot⟩ := a1
        obtain rfl : spot = none := by simpa [Addr.add] using hs
        refine .inr ⟨b, off, rfl, fun k e he j v hv => ?_⟩
        rw [List.getElem?_map] at he
        by_cases hk : k < n
        · rw [List.getElem?_range hk] at he
          simp at he
          subst he
          have := (hf' k hk).2 j v hv
          rw [add_at, add_at] at this
          exact this
        · rw [List.getElem?_eq_none (by simp; omega)] at he
          simp at he
end
end Go.Proofs.YtlhcckjfgpcohaaGreatDoor
namespace Go.Proofs.YtlhcckjfgpcohaaGreatDoor
open Go.ChangeShapes Go.WideShapes Go.ChangeAt Go.RowKit Go.Deep
set_option maxRecDepth 100000
set_option linter.unusedVariables false
set_option linter.unusedSimpArgs false
theorem cellsF6 : Tryz.prog.cellsOf 28 = 23 := by kernel_rfl
theorem cellsT6 : Tryz.prog.cellsOf 22 = 1 := by kernel_rfl
theorem cellsB6 : Tryz.prog.cellsOf 23 = 1 := by kernel_rfl
section
variable {H : Type} {enc : TypeId × Value → H} {w : World} {b0 base : Nat} {spare : Nat → Bool} {held : Bool}
theorem open_blksC {fuel : Nat} {cs : List Value} {x : DataW H × List MemPlace} (hf : DataW.trod enc Tryz.prog w base spare held fuel 23 cs = some x) :
    ∃ (a : Option Addr) (n c : Nat) (es : List BE), cs = [.slice a n c] ∧ IsBlks w a n c es := by
  rcases open_slice Tryz.underlying23 hf with ⟨h1, _⟩ | ⟨a1, n1, c1, m, fu, D, Pl, h1, _, hn, hm, hz, _, hcell⟩
  · exact ⟨none, 0, 0, [], h1, rfl, Nat.le_refl _, by unfold maxLen; omega, (fun z hz => by cases hz), Or.inl rfl⟩
  · have hle : n1 ≤ m := by rw [hz]; split <;> omega
    rw [cells26] at hcell
    have hall : ∀ i, i < n1 → ∃ e : BE, BeOk w e ∧ ∀ j v, (elB e)[j]? = some v → w.cell? ((a1.add (i * 9)).add j) = some v := by
      intro i hi
      obtain ⟨cs', hc, ht⟩ := hcell i (by omega)
      obtain ⟨e, rfl, hok⟩ := open_blockC ht
      obtain ⟨_, hlen, hg⟩ := World.cells?_some hc
      refine ⟨e, hok, fun j v hj => ?_⟩
      rw [hg j (by rw [← hlen]; exact (List.getElem?_eq_some_iff.1 hj).1)]
      exact hj
    haveI : Inhabited BE := ⟨(⟨0, 0, [], 0, 0, ⟨0, [], 0, 0⟩⟩, none, 0, 0)⟩
    obtain ⟨f, hf'⟩ := choose_lt hall
    refine ⟨some a1, n1, c1, (List.range n1).map f, h1, by simp, hn, hm, fun e he => ?_, ?_⟩
    · obtain ⟨i, hi, rfl⟩ := List.mem_map.1 he
      exact (hf' i (List.mem_range.1 hi)).1
    · rcases Nat.eq_zero_or_pos n1 with h0 | h0
      · exact .inl h0
      · have hs := World.cell?_spot ((hf' 0 h0).2 0 _ rfl)
        obtain ⟨b, off, spot⟩ := a1
        obtain rfl : spot = none := by simpa [Addr.add] using hs
        refine .inr ⟨b, off, rfl, fun k e he j v hv => ?_⟩
        rw [List.getElem?_map] at he
        by_cases hk : k < n1
        · rw [List.getElem?_range hk] at he
          simp at he
          subst he
          have := (hf' k hk).2 j v hv
          rw [add_at, add_at] at this
          exact this
        · rw [List.getElem?_eq_none (by simpa using hk)] at he
          simp at he
theorem open_tpC {fuel : Nat} {cs : List Value} {x : DataW H × List MemPlace} (hf : DataW.trod enc Tryz.prog w base spare held fuel 22 cs = some x) :
    ∃ (a : Option Addr) (n c : Nat) (l : List (List UInt8)), cs = [.slice a n c] ∧ IsTp w a n c l := by
  rcases open_slice Tryz.underlying22 hf with ⟨h1, _⟩ | ⟨a1, n1, c1, m, fu, D, Pl, h1, _, hn, hm, hz, _, hcell⟩
  · exact ⟨none, 0, 0, [], h1, nil_tp w⟩
  · have hle : n1 ≤ m := by rw [hz]; split <;> omega
    rw [cells9] at hcell
    have hall : ∀ i, i < n1 → ∃ s : List UInt8, s.length ≤ maxLen ∧ w.cell? (a1.add i) = some (.string ⟨s.toArray⟩) := by
      intro i hi
      obtain ⟨cs', hc, ht⟩ := hcell i (by omega)
      obtain ⟨s, rfl, _, hl⟩ := DataW.trod_string Tryz.underlying9 ht
      obtain ⟨_, hlen, hg⟩ := World.cells?_some hc
      refine ⟨s.data.toList, by simpa using hl, ?_⟩
      have := hg 0 (by decide)
      rw [Nat.mul_one] at this
      simpa [add_at, Addr.add] using this
    obtain ⟨f, hf'⟩ := choose_lt hall
    refine ⟨some a1, n1, c1, (List.range n1).map f, h1, by simp, hn, hm, fun s hs => ?_, ?_⟩
    · obtain ⟨i, hi, rfl⟩ := List.mem_map.1 hs
      exact (hf' i (List.mem_range.1 hi)).1
    · rcases Nat.eq_zero_or_pos n1 with h0 | h0
      · exact .inl h0
      · have hs := World.cell?_spot (hf' 0 h0).2
        obtain ⟨b, off, spot⟩ := a1
        obtain rfl : spot = none := by simpa [Addr.add] using hs
        refine .inr ⟨b, off, rfl, fun i s hs => ?_⟩
        rw [List.getElem?_map] at hs
        by_cases hk : i < n1
        · rw [List.getElem?_range hk] at hs
          simp at hs
          subst hs
          have := (hf' i hk).2
          rw [add_at] at this
          exact this
        · rw [List.getElem?_eq_none (by simpa using hk)] at hs
          simp at hs
theorem open_labC {fuel : Nat} {u0 u1 u2 u3 : Value} {x : DataW H × List MemPlace} (h : DataW.trod enc Tryz.prog w base spare held fuel 26 [u0, u1, u2, u3] = some x) :
    ∃ (a : Option Addr) (n c : Nat) (l : Lab), [u0, u1, u2, u3] = [.int .i64 l.u, .slice a n c, .int .i64 l.ap, .int .i64 l.d] ∧ LabAt w a n c l := by
  obtain ⟨ys, m', _, _, hl', hn', hel'⟩ := DataW.trod_struct Tryz.underlying26 h
  match ys, hn' with
  | [y0, y1, y2, y3], _ =>
    have f0 : DataW.trod enc Tryz.prog w base spare held m' 3 [u0] = some y0 := by
      have q : DataW.trod enc Tryz.prog w base spare held m' 3 (([u0, u1, u2, u3].drop 0).take (Tryz.prog.cellsOf 3)) = some y0 := hel' 0 _ rfl
      rw [cellsI] at q
      exact q
    have f1 : DataW.trod enc Tryz.prog w base spare held m' 24 [u1] = some y1 := by
      have q : DataW.trod enc Tryz.prog w base spare held m' 24 (([u0, u1, u2, u3].drop 1).take (Tryz.prog.cellsOf 24)) = some y1 := hel' 1 _ rfl
      rw [cells22] at q
      exact q
    have f2 : DataW.trod enc Tryz.prog w base spare held m' 3 [u2] = some y2 := by
      have q : DataW.trod enc Tryz.prog w base spare held m' 3 (([u0, u1, u2, u3].drop 2).take (Tryz.prog.cellsOf 3)) = some y2 := hel' 2 _ rfl
      rw [cellsI] at q
      exact q
    have f3 : DataW.trod enc Tryz.prog w base spare held m' 3 [u3] = some y3 := by
      have q : DataW.trod enc Tryz.prog w base spare held m' 3 (([u0, u1, u2, u3].drop 3).take (Tryz.prog.cellsOf 3)) = some y3 := hel' 3 _ rfl
      rw [cellsI] at q
      exact q
    obtain ⟨j0, g0, k0⟩ := bd_int f0
    obtain ⟨a, n, c, zs, g1, k1⟩ := open_intsC Tryz.underlying24 Tryz.underlying3 cellsI f1
    obtain ⟨j2, g2, k2⟩ := bd_int f2
    obtain ⟨j3, g3, k3⟩ := bd_int f3
    simp at g0 g1 g2 g3
    subst g0 g1 g2 g3
    exact ⟨a, n, c, ⟨j0, zs, j2, j3⟩, rfl, k1, k0, k2, k3⟩
theorem open_factC {fuel : Nat} {cs : List Value} {x : DataW H × List MemPlace} (h : DataW.trod enc Tryz.prog w base spare held fuel 28 cs = some x) : ∃ e : FE, cs = elF e ∧ FeOk w e := by
  obtain ⟨xs, m, _, _, hl, hn, hel⟩ := DataW.trod_struct Tryz.underlying28 h
  rw [cellsF6] at hl
  match cs, hl with
  | [v0, v1, v2, v3, v4, v5, v6, v7, v8, v9, v10, v11, v12, v13, v14, v15, v16, v17, v18, v19, v20, v21, v22], _ =>
    match xs, hn with
    | [x0, x1, x2, x3, x4, x5, x6, x7, x8, x9, x10, x11, x12, x13, x14, x15, x16, x17, x18, x19], _ =>
      have e0 : DataW.trod enc Tryz.prog w base spare held m 3 [v0] = some x0 := by
        have q : DataW.trod enc Tryz.prog w base spare held m 3 (([v0, v1, v2, v3, v4, v5, v6, v7, v8, v9, v10, v11, v12, v13, v14, v15, v16, v17, v18, v19, v20, v21, v22].drop 0).take (Tryz.prog.cellsOf 3)) = some x0 := hel 0 _ rfl
        rw [cellsI] at q
        exact q
      have e1 : DataW.trod enc Tryz.prog w base spare held m 3 [v1] = some x1 := by
        have q : DataW.trod enc Tryz.prog w base spare held m 3 (([v0, v1, v2, v3, v4, v5, v6, v7, v8, v9, v10, v11, v12, v13, v14, v15, v16, v17, v18, v19, v20, v21, v22].drop 1).take (Tryz.prog.cellsOf 3)) = some x1 := hel 1 _ rfl
        rw [cellsI] at q
        exact q
      have e2 : DataW.trod enc Tryz.prog w base spare held m 3 [v2] = some x2 := by
        have q : DataW.trod enc Tryz.prog w base spare held m 3 (([v0, v1, v2, v3, v4, v5, v6, v7, v8, v9, v10, v11, v12, v13, v14, v15, v16, v17, v18, v19, v20, v21, v22].drop 2).take (Tryz.prog.cellsOf 3)) = some x2 := hel 2 _ rfl
        rw [cellsI] at q
        exact q
      have e3 : DataW.trod enc Tryz.prog w base spare held m 3 [v3] = some x3 := by
        have q : DataW.trod enc Tryz.prog w base spare held m 3 (([v0, v1, v2, v3, v4, v5, v6, v7, v8, v9, v10, v11, v12, v13, v14, v15, v16, v17, v18, v19, v20, v21, v22].drop 3).take (Tryz.prog.cellsOf 3)) = some x3 := hel 3 _ rfl
        rw [cellsI] at q
        exact q
      have e4 : DataW.trod enc Tryz.prog w base spare held m 9 [v4] = some x4 := by
        have q : DataW.trod enc Tryz.prog w base spare held m 9 (([v0, v1, v2, v3, v4, v5, v6, v7, v8, v9, v10, v11, v12, v13, v14, v15, v16, v17, v18, v19, v20, v21, v22].drop 4).take (Tryz.prog.cellsOf 9)) = some x4 := hel 4 _ rfl
        rw [cells9] at q
        exact q
      have e5 : DataW.trod enc Tryz.prog w base spare held m 3 [v5] = some x5 := by
        have q : DataW.trod enc Tryz.prog w base spare held m 3 (([v0, v1, v2, v3, v4, v5, v6, v7, v8, v9, v10, v11, v12, v13, v14, v15, v16, v17, v18, v19, v20, v21, v22].drop 5).take (Tryz.prog.cellsOf 3)) = some x5 := hel 5 _ rfl
        rw [cellsI] at q
        exact q
      have e6 : DataW.trod enc Tryz.prog w base spare held m 3 [v6] = some x6 := by
        have q : DataW.trod enc Tryz.prog w base spare held m 3 (([v0, v1, v2, v3, v4, v5, v6, v7, v8, v9, v10, v11, v12, v13, v14, v15, v16, v17, v18, v19, v20, v21, v22].drop 6).take (Tryz.prog.cellsOf 3)) = some x6 := hel 6 _ rfl
        rw [cellsI] at q
        exact q
      have e7 : DataW.trod enc Tryz.prog w base spare held m 9 [v7] = some x7 := by
        have q : DataW.trod enc Tryz.prog w base spare held m 9 (([v0, v1, v2, v3, v4, v5, v6, v7, v8, v9, v10, v11, v12, v13, v14, v15, v16, v17, v18, v19, v20, v21, v22].drop 7).take (Tryz.prog.cellsOf 9)) = some x7 := hel 7 _ rfl
        rw [cells9] at q
        exact q
      have e8 : DataW.trod enc Tryz.prog w base spare held m 9 [v8] = some x8 := by
        have q : DataW.trod enc Tryz.prog w base spare held m 9 (([v0, v1, v2, v3, v4, v5, v6, v7, v8, v9, v10, v11, v12, v13, v14, v15, v16, v17, v18, v19, v20, v21, v22].drop 8).take (Tryz.prog.cellsOf 9)) = some x8 := hel 8 _ rfl
        rw [cells9] at q
        exact q
      have e9 : DataW.trod enc Tryz.prog w base spare held m 22 [v9] = some x9 := by
        have q : DataW.trod enc Tryz.prog w base spare held m 22 (([v0, v1, v2, v3, v4, v5, v6, v7, v8, v9, v10, v11, v12, v13, v14, v15, v16, v17, v18, v19, v20, v21, v22].drop 9).take (Tryz.prog.cellsOf 22)) = some x9 := hel 9 _ rfl
        rw [cellsT6] at q
        exact q
      have e10 : DataW.trod enc Tryz.prog w base spare held m 23 [v10] = some x10 := by
        have q : DataW.trod enc Tryz.prog w base spare held m 23 (([v0, v1, v2, v3, v4, v5, v6, v7, v8, v9, v10, v11, v12, v13, v14, v15, v16, v17, v18, v19, v20, v21, v22].drop 10).take (Tryz.prog.cellsOf 23)) = some x10 := hel 10 _ rfl
        rw [cellsB6] at q
        exact q
      have e11 : DataW.trod enc Tryz.prog w base spare held m 26 [v11, v12, v13, v14] = some x11 := by
        have q : DataW.trod enc Tryz.prog w base spare held m 26 (([v0, v1, v2, v3, v4, v5, v6, v7, v8, v9, v10, v11, v12, v13, v14, v15, v16, v17, v18, v19, v20, v21, v22].drop 11).take (Tryz.prog.cellsOf 26)) = some x11 := hel 11 _ rfl
        rw [cells24] at q
        exact q
      have e12 : DataW.trod enc Tryz.prog w base spare held m 3 [v15] = some x12 := by
        have q : DataW.trod enc Tryz.prog w base spare held m 3 (([v0, v1, v2, v3, v4, v5, v6, v7, v8, v9, v10, v11, v12, v13, v14, v15, v16, v17, v18, v19, v20, v21, v22].drop 15).take (Tryz.prog.cellsOf 3)) = some x12 := hel 12 _ rfl
        rw [cellsI] at q
        exact q
      have e13 : DataW.trod enc Tryz.prog w base spare held m 3 [v16] = some x13 := by
        have q : DataW.trod enc Tryz.prog w base spare held m 3 (([v0, v1, v2, v3, v4, v5, v6, v7, v8, v9, v10, v11, v12, v13, v14, v15, v16, v17, v18, v19, v20, v21, v22].drop 16).take (Tryz.prog.cellsOf 3)) = some x13 := hel 13 _ rfl
        rw [cellsI] at q
        exact q
      have e14 : DataW.trod enc Tryz.prog w base spare held m 3 [v17] = some x14 := by
        have q : DataW.trod enc Tryz.prog w base spare held m 3 (([v0, v1, v2, v3, v4, v5, v6, v7, v8, v9, v10, v11, v12, v13, v14, v15, v16, v17, v18, v19, v20, v21, v22].drop 17).take (Tryz.prog.cellsOf 3)) = some x14 := hel 14 _ rfl
        rw [cellsI] at q
        exact q
      have e15 : DataW.trod enc Tryz.prog w base spare held m 9 [v18] = some x15 := by
        have q : DataW.trod enc Tryz.prog w base spare held m 9 (([v0, v1, v2, v3, v4, v5, v6, v7, v8, v9, v10, v11, v12, v13, v14, v15, v16, v17, v18, v19, v20, v21, v22].drop 18).take (Tryz.prog.cellsOf 9)) = some x15 := hel 15 _ rfl
        rw [cells9] at q
        exact q
      have e16 : DataW.trod enc Tryz.prog w base spare held m 9 [v19] = some x16 := by
        have q : DataW.trod enc Tryz.prog w base spare held m 9 (([v0, v1, v2, v3, v4, v5, v6, v7, v8, v9, v10, v11, v12, v13, v14, v15, v16, v17, v18, v19, v20, v21, v22].drop 19).take (Tryz.prog.cellsOf 9)) = some x16 := hel 16 _ rfl
        rw [cells9] at q
        exact q
      have e17 : DataW.trod enc Tryz.prog w base spare held m 3 [v20] = some x17 := by
        have q : DataW.trod enc Tryz.prog w base spare held m 3 (([v0, v1, v2, v3, v4, v5, v6, v7, v8, v9, v10, v11, v12, v13, v14, v15, v16, v17, v18, v19, v20, v21, v22].drop 20).take (Tryz.prog.cellsOf 3)) = some x17 := hel 17 _ rfl
        rw [cellsI] at q
        exact q
      have e18 : DataW.trod enc Tryz.prog w base spare held m 3 [v21] = some x18 := by
        have q : DataW.trod enc Tryz.prog w base spare held m 3 (([v0, v1, v2, v3, v4, v5, v6, v7, v8, v9, v10, v11, v12, v13, v14, v15, v16, v17, v18, v19, v20, v21, v22].drop 21).take (Tryz.prog.cellsOf 3)) = some x18 := hel 18 _ rfl
        rw [cellsI] at q
        exact q
      have e19 : DataW.trod enc Tryz.prog w base spare held m 3 [v22] = some x19 := by
        have q : DataW.trod enc Tryz.prog w base spare held m 3 (([v0, v1, v2, v3, v4, v5, v6, v7, v8, v9, v10, v11, v12, v13, v14, v15, v16, v17, v18, v19, v20, v21, v22].drop 22).take (Tryz.prog.cellsOf 3)) = some x19 := hel 19 _ rfl
        rw [cellsI] at q
        exact q
      obtain ⟨i0, h0, d0⟩ := bd_int e0
      obtain ⟨i1, h1, d1⟩ := bd_int e1
      obtain ⟨i2, h2, d2⟩ := bd_int e2
      obtain ⟨i3, h3, d3⟩ := bd_int e3
      obtain ⟨s4, h4, _, d4⟩ := DataW.trod_string Tryz.underlying9 e4
      obtain ⟨i5, h5, d5⟩ := bd_int e5
      obtain ⟨i6, h6, d6⟩ := bd_int e6
      obtain ⟨s7, h7, _, d7⟩ := DataW.trod_string Tryz.underlying9 e7
      obtain ⟨s8, h8, _, d8⟩ := DataW.trod_string Tryz.underlying9 e8
      obtain ⟨ta, tn, tc, tl, h9, d9⟩ := open_tpC e9
      obtain ⟨ba, bn, bc, bl, h10, d10⟩ := open_blksC e10
      obtain ⟨la, ln, lc, lb, h11, d11⟩ := open_labC e11
      obtain ⟨i12, h12, d12⟩ := bd_int e12
      obtain ⟨i13, h13, d13⟩ := bd_int e13
      obtain ⟨i14, h14, d14⟩ := bd_int e14
      obtain ⟨s15, h15, _, d15⟩ := DataW.trod_string Tryz.underlying9 e15
      obtain ⟨s16, h16, _, d16⟩ := DataW.trod_string Tryz.underlying9 e16
      obtain ⟨i17, h17, d17⟩ := bd_int e17
      obtain ⟨i18, h18, d18⟩ := bd_int e18
      obtain ⟨i19, h19, d19⟩ := bd_int e19
      simp at h0 h1 h2 h3 h4 h5 h6 h7 h8 h9 h10 h11 h12 h13 h14 h15 h16 h17 h18 h19
      subst h0 h1 h2 h3 h4 h5 h6 h7 h8 h9 h10 h12 h13 h14 h15 h16 h17 h18 h19
      obtain ⟨rfl, rfl, rfl, rfl⟩ := h11
      refine ⟨⟨⟨i0, i1, i2, i3, s4.data.toList, i5, i6, s7.data.toList, s8.data.toList, tl, blks bl, lb, i12, i13, i14, s15.data.toList, s16.data.toList, i17, i18, i19⟩, ta, tn, tc, ba, bn, bc, la, ln, lc⟩, by simp [elF], d9, ⟨bl, rfl, d10⟩, d11, ⟨d0, d1, d2, d3, d5, d6, d12, d13, d14, d17, d18, d19⟩, ⟨by simpa using d4, by simpa using d7, by simpa using d8, by simpa using d15, by simpa using d16⟩⟩
theorem open_fact {r : Reach} {v : Value} {d : DataW H} {p : List MemPlace} (hv : Value.okWide Tryz.prog w r b0 28 v) (h : DataW.Trod enc Tryz.prog w base spare held 28 v d p) : ∃ e : FE, v = aggF e ∧ FeOk w e := by
  have hv' := hv
  simp only [Value.okWide, Tryz.underlying28] at hv'
  obtain ⟨cs, rfl, hsz, _⟩ := hv'
  obtain ⟨fuel, hf⟩ := h
  obtain ⟨e, he, hok⟩ := open_factC hf
  refine ⟨e, ?_, hok⟩
  have : cs = (elF e).toArray := by
    have h1 : cs.toList = elF e := by simpa [Value.cells] using he
    rw [← h1]
  rw [this]; rfl
end
end Go.Proofs.YtlhcckjfgpcohaaGreatDoor
