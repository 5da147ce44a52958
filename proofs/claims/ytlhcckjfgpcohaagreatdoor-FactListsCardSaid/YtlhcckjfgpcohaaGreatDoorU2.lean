/- Package fact: the writer. Package fact: what codes lists, by a writer. Package fact: a writer writes fields. Package fact: a writer writes lists of fields, and a fact. Package fact: Encode. -/
import Derived.Test.YtlhcckjfgpcohaaGreatDoorBlkE3
import Derived.Test.YtlhcckjfgpcohaaGreatDoorU1
namespace Go.Proofs.YtlhcckjfgpcohaaGreatDoor
open Go.RowKit Go.MapKept
set_option maxRecDepth 100000
set_option linter.unusedSimpArgs false
set_option linter.unusedVariables false
set_option maxRecDepth 100000 in
set_option maxHeartbeats 1000000 in
theorem wcheck_fresh (b : Nat) (w : World) (h0 : w.cell? ⟨b, 0, none⟩ = some (.pointer none)) (hsh : w.shape? b = some (56, 2)) (hfz : w.frozen? ⟨b, 0, none⟩ = false) :
    Calls Tryz.prog 127 #[.pointer (some ⟨b, 0, none⟩)] w fun e w' => e = .returned (.tuple #[]) ∧ w' = w.setCell ⟨b, 0, none⟩ (.pointer (some ⟨b, 0, none⟩)) := by
  obtain ⟨j, hj, hjs⟩ := Option.map_eq_some_iff.1 sizeBuilder
  go_enter Tryz.func127, Tryz.ntmps127
  go_wp2
  rw [Lib.run_to_unsafe w ⟨b, 0, none⟩ Tryz.underlying51 Tryz.underlying157 hj (by rw [hjs]; decide) hsh (Nat.zero_lt_succ 1)]
  simp only [Result.andThen]
  rw [Oper.upon_value]
  go_wp2
  rw [run_callFunc_extern Tryz.func138 (by kernel_rfl) (by kernel_rfl) (by kernel_rfl) (e := Extern.AbiNoEscape.same) (by kernel_rfl)]
  rw [Lib.run_noEscape]
  simp only [Result.andThen]
  rw [Oper.upon_value]
  go_wp2
  rw [Lib.run_from_unsafe w ⟨b, 0, none⟩ Tryz.underlying157 Tryz.underlying51 hj hsh (by kernel_rfl)]
  simp only [Result.andThen]
  rw [Oper.upon_value]
  go_wp2
  go_end0
  exact ⟨rfl, rfl⟩
theorem wcheck_any (B b : Nat) (bs : List Value) (w : World) (h : Lib.IsBuilderF 56 5 B b bs w) :
    Calls Tryz.prog 127 #[.pointer (some ⟨b, 0, none⟩)] w fun e w' => e = .returned (.tuple #[]) ∧ (Lib.BuilderAtF 56 5 B b (.pointer (some ⟨b, 0, none⟩)) bs w' ∧ Below B w w' ∧ Lib.OthersKept 5 (some b) w w') := by
  rcases h with h | h
  · refine (wcheck_fresh b w h.cell0 h.shape h.frozen0).mono ?_
    rintro e w' ⟨rfl, rfl⟩
    exact ⟨rfl, h.used _, (Below.refl B w).setCell (p := ⟨b, 0, none⟩) h.1 _, (Lib.OthersKept.refl _ _ w).setCell ⟨b, 0, none⟩ rfl _⟩
  · refine (copyCheck_used b w h.cell0).mono ?_
    rintro e w' ⟨rfl, rfl⟩
    exact ⟨rfl, h, Below.refl B _, Lib.OthersKept.refl _ _ _⟩
open Go.RowKit Go.MapKept
set_option maxRecDepth 100000
set_option linter.unusedSimpArgs false
set_option linter.unusedVariables false
/-- A builder in block b that holds the bytes. -/
abbrev IsW (B b : Nat) (l : List UInt8) (w : World) : Prop := Lib.IsBuilderF 56 5 B b (Lib.byteCells l) w
/-- What a writer leaves. -/
def PutW (B b : Nat) (l : List UInt8) (w w' : World) : Prop := IsW B b l w' ∧ Below B w w' ∧ Lib.OthersKept 5 (some b) w w'
theorem PutW.trans {B b : Nat} {l m : List UInt8} {w w1 w2 : World} (h : PutW B b l w w1) (k : PutW B b m w1 w2) : PutW B b m w w2 := ⟨k.1, h.2.1.trans k.2.1, h.2.2.trans k.2.2⟩
theorem PutW.alloc {B b : Nat} {l : List UInt8} {w w1 : World} (h : PutW B b l w w1) (hB : B ≤ w.heap.size) (o : Obj) : PutW B b l w (w1.alloc o) := ⟨h.1.alloc o, h.2.1.alloc (Nat.le_trans hB h.2.1.size) o, h.2.2.alloc o⟩
theorem PutW.refl {B b : Nat} {l : List UInt8} {w : World} (h : IsW B b l w) : PutW B b l w w := ⟨h, Below.refl _ _, Lib.OthersKept.refl _ _ _⟩
theorem isW_below {B b : Nat} {l : List UInt8} {w w' : World} (h : IsW B b l w) (hb : Below w.heap.size w w') : IsW B b l w' := by
  have key : ∀ k o, w.heap[k]? = some o → w'.heap[k]? = some o := fun k o hk => (hb.block k (Array.getElem?_eq_some_iff.1 hk).1).trans hk
  have row : ∀ v n xs, w.ownsRowF B 5 1 v n xs → w'.ownsRowF B 5 1 v n xs := by
    rintro v n xs ⟨h1, h2 | ⟨g, cap, cur, fz, hv, hg, hh, rest⟩⟩
    · exact ⟨h1, .inl h2⟩
    · exact ⟨h1, .inr ⟨g, cap, cur, fz, hv, hg, key _ _ hh, rest⟩⟩
  rcases h with ⟨hB, v, hv, hown, hne⟩ | ⟨hB, v, hv, hown, hne⟩
  · exact .inl ⟨hB, v, key _ _ hv, row _ _ _ hown, hne⟩
  · exact .inr ⟨hB, v, key _ _ hv, row _ _ _ hown, hne⟩
theorem PutW.below {B b : Nat} {l : List UInt8} {w w1 w2 : World} (h : PutW B b l w w1) (hB : B ≤ w.heap.size) (k : Below w1.heap.size w1 w2) : PutW B b l w w2 :=
  ⟨isW_below h.1 k, h.2.1.trans (k.mono (Nat.le_trans hB h.2.1.size)), h.2.2.trans (othersKept_below _ _ k)⟩
set_option maxHeartbeats 2000000 in
theorem wwrite_any (B b : Nat) (l : List UInt8) (s : ByteArray) (w : World) (h : IsW B b l w) (hlen : l.length + s.size ≤ 140737488355328) (hBw : B ≤ w.heap.size) :
    Calls Tryz.prog 124 #[.pointer (some ⟨b, 0, none⟩), .string s] w fun e w' => e = .returned (.tuple #[.int .i64 s.size, .nilIface]) ∧ PutW B b (l ++ s.data.toList) w w' := by
  obtain ⟨i0, hi, hz0, hz1, hz2⟩ := info_parts infoByte
  have hbl : (Lib.byteCells l).length = l.length := Lib.byteCells_length l
  go_enter Tryz.func124, Tryz.ntmps124
  go_wp2_with (go_at_call 127; refine (wcheck_any B b _ _ h).mono ?_)
  rintro e w1 ⟨rfl, h1, hb1, hk1⟩
  obtain ⟨hB, v, hbk, hown, hne⟩ := h1
  have c0 : w1.cell? ⟨b, 0, none⟩ = some (.pointer (some ⟨b, 0, none⟩)) := by rw [Lib.cell_of_heap hbk]; rfl
  have c1 : w1.cell? ⟨b, 1, none⟩ = some v := by rw [Lib.cell_of_heap hbk]; rfl
  go_wp2_with (at_builtin; refine Lib.wpList_append_own_stringF _ rfl _ _ 52 9 rfl B 5 i0 Tryz.underlying52 Tryz.underlying9 hi hz0 hz1 hz2 _ _ _ rfl hown s rfl ?c3 ?c4 ?c5 ?_)
  case c3 => unfold maxLen; omega
  case c4 => omega
  case c5 => have := hb1.size; omega
  intro v' w2 hown' hgrow _
  have hlt : b < w1.heap.size := by
    rcases Nat.lt_or_ge b w1.heap.size with h' | h'
    · exact h'
    · simp [Array.getElem?_eq_none h'] at hbk
  have hb2 : w2.heap[b]? = some (.cells #[.pointer (some ⟨b, 0, none⟩), v] 56 (0, 0)) := by
    rw [hgrow.block b hlt (fun e => hne e.symm)]
    exact hbk
  have d0 : w2.cell? ⟨b, 0, none⟩ = some (.pointer (some ⟨b, 0, none⟩)) := by rw [Lib.cell_of_heap hb2]; rfl
  have d1 : w2.cell? ⟨b, 1, none⟩ = some v := by rw [Lib.cell_of_heap hb2]; rfl
  have f1 : w2.frozen? ⟨b, 1, none⟩ = false := Lib.frozen_of_heap hb2 1
  obtain ⟨ao, n', cap, rfl⟩ : ∃ ao n' cap, v' = .slice ao n' cap := by
    rcases hown'.2 with ⟨hv, _⟩ | ⟨g, cap, cur, fz, hv, _⟩
    · exact ⟨_, _, _, hv⟩
    · exact ⟨_, _, _, hv⟩
  go_wp2
  go_ret2
  have hs : Lib.byteCells (l ++ s.data.toList) = Lib.byteCells l ++ Lib.strCells s := by simp [Lib.byteCells, Lib.strCells]
  refine ⟨rfl, ?_, ?_, (hk1.grown hgrow (Lib.ownsRowF_kind hown)).setCell ⟨b, 1, none⟩ rfl _⟩
  · refine .inr ?_
    rw [hs]
    exact Lib.BuilderAtF.put (T := 56) (e := 5) hB hb2 (bs' := Lib.byteCells l ++ Lib.strCells s) (by simpa [Lib.strCells_length, hbl] using hown') (by decide)
  · exact (hb1.grown hgrow (by have := hb1.size; omega) (fun k hk => (hown.lt k hk).1)).setCell (p := ⟨b, 1, none⟩) hB _
open Go.RowKit Go.MapKept
set_option maxRecDepth 100000
set_option linter.unusedSimpArgs false
set_option linter.unusedVariables false
theorem isW_block {B b : Nat} {l : List UInt8} {w : World} (h : IsW B b l w) : ∃ cs, w.heap[b]? = some (.cells cs 56 (0, 0)) := by
  rcases h with ⟨_, v, hb, _⟩ | ⟨_, v, hb, _⟩
  · exact ⟨_, hb⟩
  · exact ⟨_, hb⟩
/-- A block of another type stands behind a writer. -/
theorem PutW.kept {B b g t : Nat} {l l' : List UInt8} {w w' : World} {cs : Array Value} {fr : Nat × Nat} (hI : IsW B b l w) (h : PutW B b l' w w') (hg : w.heap[g]? = some (.cells cs t fr)) (h5 : t ≠ 5) (h65 : t ≠ 56) : w'.heap[g]? = some (.cells cs t fr) := by
  refine h.2.2 g _ hg ?_ ?_
  · intro e
    cases e
    obtain ⟨cs', hb⟩ := isW_block hI
    rw [hb] at hg
    cases hg
    exact h65 rfl
  · intro c fz e
    cases e
    exact h5 rfl
theorem cellPutW {B C : Nat} {l l' : List UInt8} {w w' : World} {g o : Nat} {cs : Array Value} {t : TypeId} {fr : Nat × Nat} {v : Value} (hI : IsW B C l w) (h : PutW B C l' w w') (hg : w.heap[g]? = some (.cells cs t fr)) (h5 : t ≠ 5) (h65 : t ≠ 56) (hv : cs[o]? = some v) : w'.cell? ⟨g, o, none⟩ = some v := by
  rw [Joins.cell_of_block (h.kept hI hg h5 h65)]
  exact hv
set_option maxHeartbeats 2000000 in
theorem wnumber (B C : Nat) (l : List UInt8) (p : Addr) (n : Int) (w : World) (h : IsW B C l w) (hB : B ≤ w.heap.size) (hl : l.length ≤ 100000000) (hn : okInt n = true) (hp : w.cell? p = some (.int .i64 n)) :
    Calls Tryz.prog 169 #[.pointer (some ⟨C, 0, none⟩), .pointer (some p)] w fun e w' => e = .returned (.tuple #[]) ∧ PutW B C (l ++ encInt n) w w' := by
  have P0 := Lib.hid (PutW.refl h)
  have KP := Lib.hid (putInt_yes n w hn)
  have HL := Lib.hid hl
  have HO := Lib.hid (encInt_len n)
  clear h hl hn
  generalize encInt n = E at *
  go_enter Tryz.func169, Tryz.ntmps169
  go_wp2_with fail
  refine KP.out.mono ?_
  rintro e w1 ⟨rfl, b1⟩
  have hp1 := Lib.hid (P0.out.below hB b1)
  have hsz1 : B ≤ w1.heap.size := Nat.le_trans hB b1.size
  clear b1 hp
  go_wp2_with fail
  refine (wwrite_any B C _ ⟨E.toArray⟩ w1 hp1.out.1 (by have h1 := HL.out; have h2 := HO.out; rw [mk_size']; omega) hsz1).mono ?_
  rintro e w2 ⟨rfl, hq⟩
  have hp2 := Lib.hid (hp1.out.trans hq)
  clear hq hp1 hsz1
  go_wp2
  go_end0
  exact ⟨rfl, hp2.out⟩
set_option maxHeartbeats 2000000 in
theorem wtext (B C : Nat) (l t : List UInt8) (p : Addr) (w : World) (h : IsW B C l w) (hB : B ≤ w.heap.size) (hl : l.length ≤ 100000000) (ht : t.length ≤ 65536) (hp : w.cell? p = some (.string ⟨t.toArray⟩)) :
    Calls Tryz.prog 170 #[.pointer (some ⟨C, 0, none⟩), .pointer (some p)] w fun e w' => e = .returned (.tuple #[]) ∧ PutW B C (l ++ encS t) w w' := by
  have P0 := Lib.hid (PutW.refl h)
  have hsz := mk_size' t
  have KP := Lib.hid (putStr_yes ⟨t.toArray⟩ w (by rw [hsz]; exact ht))
  have HE : Hid (((⟨(encInt (⟨t.toArray⟩ : ByteArray).size).toArray⟩ : ByteArray) ++ ⟨t.toArray⟩) = ⟨(encS t).toArray⟩) := Lib.hid (by
    rw [hsz]; exact bytes_ext (by simp [encS]))
  rw [HE.out] at KP
  have HL := Lib.hid hl
  have HO := Lib.hid (encS_len ht)
  clear h hl ht hsz HE
  generalize encS t = E at *
  go_enter Tryz.func170, Tryz.ntmps170
  go_wp2_with fail
  refine KP.out.mono ?_
  rintro e w1 ⟨rfl, b1⟩
  have hp1 := Lib.hid (P0.out.below hB b1)
  have hsz1 : B ≤ w1.heap.size := Nat.le_trans hB b1.size
  clear b1 hp
  go_wp2_with fail
  refine (wwrite_any B C _ ⟨E.toArray⟩ w1 hp1.out.1 (by have h1 := HL.out; have h2 := HO.out; rw [mk_size']; omega) hsz1).mono ?_
  rintro e w2 ⟨rfl, hq⟩
  have hp2 := Lib.hid (hp1.out.trans hq)
  clear hq hp1 hsz1
  go_wp2
  go_end0
  exact ⟨rfl, hp2.out⟩
set_option maxHeartbeats 2000000 in
theorem wblocks (B C : Nat) (l : List UInt8) (a : Option Addr) (n c : Nat) (bl : List Blk) (p : Addr) (w : World) (h : IsW B C l w) (hB : B ≤ w.heap.size) (hl : l.length ≤ 100000000) (hv : vL bl = true) (hI : IsBl w a n c bl) (hp : w.cell? p = some (.slice a n c)) :
    Calls Tryz.prog 168 #[.pointer (some ⟨C, 0, none⟩), .pointer (some p)] w fun e w' => e = .returned (.tuple #[]) ∧ PutW B C (l ++ encS (encL bl)) w w' := by
  have P0 := Lib.hid (PutW.refl h)
  obtain ⟨es, rfl, he⟩ := hI
  have KP := Lib.hid (encode_any a n c es w he)
  have HE : Hid (encR (blks es) = (encL (blks es), 0)) := Lib.hid (by unfold encR; rw [if_pos hv])
  rw [HE.out] at KP
  have HL := Lib.hid hl
  have HO := Lib.hid (encL_le hv)
  clear h hl hv HE he
  generalize encL (blks es) = E at *
  go_enter Tryz.func168, Tryz.ntmps168
  go_wp2_with fail
  refine KP.out.mono ?_
  rintro e w1 ⟨rfl, b1⟩
  have hp1 := Lib.hid ((P0.out.below hB b1).alloc hB (.cells #[.string ⟨E.toArray⟩] 9))
  have hsz1 : B ≤ (w1.alloc (.cells #[.string ⟨E.toArray⟩] 9)).heap.size := Nat.le_trans (Nat.le_trans hB b1.size) (below_alloc w1 _).size
  have hc : (w1.alloc (.cells #[.string ⟨E.toArray⟩] 9)).cell? ⟨w1.heap.size, 0, none⟩ = some (.string ⟨E.toArray⟩) := by rw [Joins.cell_of_block (heap_alloc_new w1 _)]; rfl
  clear b1 hp
  go_wp2_with fail
  refine (wtext B C l E ⟨w1.heap.size, 0, none⟩ _ hp1.out.1 hsz1 HL.out HO.out hc).mono ?_
  rintro e w2 ⟨rfl, hq⟩
  have hp2 := Lib.hid (hp1.out.trans hq)
  clear hq hp1 hsz1 hc
  go_wp2
  go_end0
  exact ⟨rfl, hp2.out⟩
end Go.Proofs.YtlhcckjfgpcohaaGreatDoor
namespace Go.Proofs.YtlhcckjfgpcohaaGreatDoor
open Go.RowKit Go.MapKept
set_option maxRecDepth 100000
set_option linter.unusedSimpArgs false
set_option linter.unusedVariables false
/-- A method of a coder, by the dynamic type. -/
theorem mW_number (a : Addr) (w : World) : (method 316 50 (.pointer (some a)) "copydesk/fact.number").run Tryz.prog w = .ok (169, .pointer (some a)) w := by kernel_rfl
theorem mW_text (a : Addr) (w : World) : (method 316 50 (.pointer (some a)) "copydesk/fact.text").run Tryz.prog w = .ok (170, .pointer (some a)) w := by kernel_rfl
theorem mW_blocks (a : Addr) (w : World) : (method 316 50 (.pointer (some a)) "copydesk/fact.blocks").run Tryz.prog w = .ok (168, .pointer (some a)) w := by kernel_rfl
theorem aW_number (a : Addr) (w : World) : (nilAhead 316 50 (.pointer (some a)) "copydesk/fact.number").run Tryz.prog w = .ok (some false) w := by kernel_rfl
def cvW (C : Nat) : Value := .iface 50 (.pointer (some ⟨C, 0, none⟩))
set_option maxHeartbeats 4000000 in
theorem wlistI (B C : Nat) (l : List UInt8) (g o : Nat) (cs : Array Value) (t : TypeId) (fr : Nat × Nat) (a : Option Addr) (n c : Nat) (zs : List Int) (most : Int) (w : World) (h : IsW B C l w) (hB : B ≤ w.heap.size) (hl : l.length ≤ 10000000)
    (hg : w.heap[g]? = some (.cells cs t fr)) (h5 : t ≠ 5) (h65 : t ≠ 56) (hv : cs[o]? = some (.slice a n c)) (hI : ∀ l' W', PutW B C l' w W' → IsInts .i64 W' a n c zs) (hm : (n : Int) ≤ most) (hm2 : most ≤ 1000) (hok : ∀ z ∈ zs, okInt z = true) :
    Calls Tryz.prog 72 #[cvW C, .pointer (some ⟨g, o, none⟩), .int .i64 most, .func (.methodOf 79 "copydesk/fact.number") #[] #[]] w fun e w' => e = .returned (.tuple #[]) ∧ PutW B C (l ++ encN zs) w w' := by
  have P0 := Lib.hid (PutW.refl h)
  have HI := Lib.hid hI
  have h0 := hI l w (PutW.refl h)
  have HL0 := Lib.hid h0.1
  have hnm : n ≤ 1000 := by omega
  have hcm := h0.2.2.1
  have hnc := h0.2.1
  unfold maxLen at hcm
  have hc0 : w.cell? ⟨g, o, none⟩ = some (.slice a n c) := by rw [Joins.cell_of_block hg]; exact hv
  have HC := Lib.hid (fun l' w' (hp : PutW B C l' w w') => cellPutW h hp hg h5 h65 hv)
  have HOK := Lib.hid hok
  have HL := Lib.hid hl
  clear h h0 hI hg hv h5 h65 hok hl
  unfold cvW
  go_enter Tryz.func72, Tryz.ntmps72
  have hm1 := fun w => mW_number ⟨C, 0, none⟩ w
  have hle : (n : Int) ≤ 1000 := by omega
  have hn0 : okInt (n : Int) = true := by simp [okInt]; omega
  have HP1 := Lib.hid (P0.out.alloc hB (.cells #[.int .i64 n] 3))
  have HG := Lib.hid (heap_alloc_new w (.cells #[.int .i64 n] 3))
  have hB1 : B ≤ (w.alloc (.cells #[.int .i64 n] 3)).heap.size := Nat.le_trans hB (below_alloc w _).size
  have hcn : (w.alloc (.cells #[.int .i64 n] 3)).cell? ⟨w.heap.size, 0, none⟩ = some (.int .i64 n) := by rw [Joins.cell_of_block HG.out]; rfl
  go_wp2_with fail
  refine (wnumber B C l ⟨w.heap.size, 0, none⟩ n _ HP1.out.1 hB1 (by have := HL.out; omega) hn0 hcn).mono ?_
  rintro e w1 ⟨rfl, hq⟩
  have hp1 := Lib.hid (HP1.out.trans hq)
  have c1 := HC.out _ _ hp1.out
  have g1 := cellPutW HP1.out.1 hq HG.out (by decide) (by decide) (o := 0) rfl
  have hB2 : B ≤ w1.heap.size := Nat.le_trans hB1 hq.2.1.size
  clear hq HP1 HG hB1 hcn hc0
  have HIN : Hid (inB (n : Int) 0 most = true) := Lib.hid (by simp [inB]; omega)
  go_wp2_with fail
  refine (inside5 n 0 most _).mono ?_
  rintro e w2 ⟨rfl, rfl⟩
  rw [HIN.out]
  go_wp2_with fail
  go_quiet (fail)
  rename_i nq
  have hp2 := Lib.hid (hp1.out.below hB (below_drewN (Below.refl _ _) nq))
  have c2 := HC.out _ _ hp2.out
  have hB3 : B ≤ (w1.drewN nq).heap.size := hB2
  generalize w1.drewN nq = W2 at hp2 c2 hB3 ⊢
  clear hp1 c1 g1 hB2 HIN
  go_wp2_with fail
  go_loopw [35, 9] (fun i _ wr => ∃ k : Nat, k ≤ n ∧ i = .int .i64 k ∧ Hid (PutW B C (l ++ encInt (n : Int) ++ (zs.take k).flatMap encInt) w wr)) (fun i _ _ => n - (intOf i).toNat)
  case atStart => exact ⟨0, Nat.zero_le _, rfl, Lib.hid (by simpa using hp2.out)⟩
  case round =>
    clear hp2 c2 hB3
    obtain ⟨k, hk, rfl, hp⟩ := hrel
    have cr := HC.out _ _ hp.out
    by_cases hlt : k < n
    · have hIz := HI.out _ _ hp.out
      obtain ⟨b', off, rfl, cz⟩ := hIz.2.2.2.2.resolve_left (by omega)
      have hcell := cz k hlt
      have hkl : k < zs.length := by rw [HL0.out]; exact hlt
      have hz := HOK.out _ (getD_mem hkl)
      have HS := Lib.hid (flatMap_take_succ encInt zs k hkl)
      have hfl := flat_len (zs.take k)
      simp only [List.length_take] at hfl
      have HN : Hid ((l ++ encInt (n : Int) ++ (zs.take k).flatMap encInt).length ≤ 100000000) := Lib.hid (by
        rw [List.length_append, List.length_append]
        have := HL.out
        have := encInt_len (n : Int)
        omega)
      clear cz hkl hfl hIz
      generalize zs.getD k 0 = z at *
      have hsz : B ≤ wr.heap.size := Nat.le_trans hB hp.out.2.1.size
      have hltn : (k : Int) < n := by omega
      go_wp2_with fail
      refine (wnumber B C _ ⟨b', off + k, none⟩ z wr hp.out.1 hsz HN.out hz hcell).mono ?_
      rintro e w3 ⟨rfl, hq⟩
      have hp3 : Hid (PutW B C (l ++ encInt (n : Int) ++ (zs.take (k + 1)).flatMap encInt) w w3) := Lib.hid (by
        rw [HS.out, ← List.append_assoc]
        exact hp.out.trans hq)
      clear hq hp hsz hcell cr hz
      go_wp2_with fail
      go_roundw
      case rel => exact ⟨k + 1, by omega, by go_num, hp3⟩
      case measure => simp [intOf]; omega
    · obtain rfl : n = k := by omega
      have hp3 : Hid (PutW B C (l ++ encN zs) w wr) := Lib.hid (by
        have h := hp.out
        rw [← HL0.out, List.take_length, List.append_assoc] at h
        exact h)
      clear hp
      go_wp2
      go_end0
      exact ⟨rfl, hp3.out⟩
theorem flatS_succ {zs : List (List UInt8)} {k : Nat} {z : List UInt8} (h : zs[k]? = some z) : (zs.take (k + 1)).flatMap encS = (zs.take k).flatMap encS ++ encS z := by
  obtain ⟨hk, rfl⟩ := List.getElem?_eq_some_iff.1 h
  rw [List.take_succ_eq_append_getElem hk, List.flatMap_append]
  simp
theorem flatS_len (zs : List (List UInt8)) (h : ∀ t ∈ zs, t.length ≤ 65536) : (zs.flatMap encS).length ≤ 65545 * zs.length := by
  induction zs with
  | nil => simp
  | cons z zs ih =>
    rw [List.flatMap_cons, List.length_append, List.length_cons]
    have h1 := encS_len (h z List.mem_cons_self)
    have h2 := ih (fun t ht => h t (List.mem_cons_of_mem _ ht))
    omega
set_option maxHeartbeats 4000000 in
theorem wlistS (B C : Nat) (l : List UInt8) (g o : Nat) (cs : Array Value) (t : TypeId) (fr : Nat × Nat) (a : Option Addr) (n c : Nat) (zs : List (List UInt8)) (most : Int) (w : World) (h : IsW B C l w) (hB : B ≤ w.heap.size) (hl : l.length ≤ 10000000)
    (hg : w.heap[g]? = some (.cells cs t fr)) (h5 : t ≠ 5) (h65 : t ≠ 56) (hv : cs[o]? = some (.slice a n c)) (hI : ∀ l' W', PutW B C l' w W' → IsTp W' a n c zs) (hm : (n : Int) ≤ most) (hm2 : most ≤ 100) (hok : ∀ z ∈ zs, z.length ≤ 65536) :
    Calls Tryz.prog 98 #[cvW C, .pointer (some ⟨g, o, none⟩), .int .i64 most, .func (.methodOf 79 "copydesk/fact.text") #[] #[]] w fun e w' => e = .returned (.tuple #[]) ∧ PutW B C (l ++ encM encS zs) w w' := by
  have P0 := Lib.hid (PutW.refl h)
  have HI := Lib.hid hI
  have h0 := hI l w (PutW.refl h)
  have HL0 := Lib.hid h0.1
  have hnm : n ≤ 100 := by omega
  have hcm := h0.2.2.1
  have hnc := h0.2.1
  unfold maxLen at hcm
  have hc0 : w.cell? ⟨g, o, none⟩ = some (.slice a n c) := by rw [Joins.cell_of_block hg]; exact hv
  have HC := Lib.hid (fun l' w' (hp : PutW B C l' w w') => cellPutW h hp hg h5 h65 hv)
  have HOK := Lib.hid hok
  have HL := Lib.hid hl
  clear h h0 hI hg hv h5 h65 hok hl
  unfold cvW
  go_enter Tryz.func98, Tryz.ntmps98
  have hm1 := fun w => mW_number ⟨C, 0, none⟩ w
  have hm3 := fun w => mW_text ⟨C, 0, none⟩ w
  have hle : (n : Int) ≤ 1000 := by omega
  have hn0 : okInt (n : Int) = true := by simp [okInt]; omega
  have HP1 := Lib.hid (P0.out.alloc hB (.cells #[.int .i64 n] 3))
  have HG := Lib.hid (heap_alloc_new w (.cells #[.int .i64 n] 3))
  have hB1 : B ≤ (w.alloc (.cells #[.int .i64 n] 3)).heap.size := Nat.le_trans hB (below_alloc w _).size
  have hcn : (w.alloc (.cells #[.int .i64 n] 3)).cell? ⟨w.heap.size, 0, none⟩ = some (.int .i64 n) := by rw [Joins.cell_of_block HG.out]; rfl
  go_wp2_with fail
  refine (wnumber B C l ⟨w.heap.size, 0, none⟩ n _ HP1.out.1 hB1 (by have := HL.out; omega) hn0 hcn).mono ?_
  rintro e w1 ⟨rfl, hq⟩
  have hp1 := Lib.hid (HP1.out.trans hq)
  have c1 := HC.out _ _ hp1.out
  have g1 := cellPutW HP1.out.1 hq HG.out (by decide) (by decide) (o := 0) rfl
  have hB2 : B ≤ w1.heap.size := Nat.le_trans hB1 hq.2.1.size
  clear hq HP1 HG hB1 hcn hc0
  have HIN : Hid (inB (n : Int) 0 most = true) := Lib.hid (by simp [inB]; omega)
  go_wp2_with fail
  refine (inside5 n 0 most _).mono ?_
  rintro e w2 ⟨rfl, rfl⟩
  rw [HIN.out]
  go_wp2_with fail
  go_quiet (fail)
  rename_i nq
  have hp2 := Lib.hid (hp1.out.below hB (below_drewN (Below.refl _ _) nq))
  have c2 := HC.out _ _ hp2.out
  have hB3 : B ≤ (w1.drewN nq).heap.size := hB2
  generalize w1.drewN nq = W2 at hp2 c2 hB3 ⊢
  clear hp1 c1 g1 hB2 HIN
  go_wp2_with fail
  go_loopw [35, 9] (fun i _ wr => ∃ k : Nat, k ≤ n ∧ i = .int .i64 k ∧ Hid (PutW B C (l ++ encInt (n : Int) ++ (zs.take k).flatMap encS) w wr)) (fun i _ _ => n - (intOf i).toNat)
  case atStart => exact ⟨0, Nat.zero_le _, rfl, Lib.hid (by simpa using hp2.out)⟩
  case round =>
    clear hp2 c2 hB3
    obtain ⟨k, hk, rfl, hp⟩ := hrel
    have cr := HC.out _ _ hp.out
    by_cases hlt : k < n
    · have hIz := HI.out _ _ hp.out
      obtain ⟨b', off, rfl, cz⟩ := hIz.2.2.2.2.resolve_left (by omega)
      have hkl : k < zs.length := by rw [HL0.out]; exact hlt
      obtain ⟨z, hzk⟩ : ∃ z, zs[k]? = some z := ⟨zs[k], List.getElem?_eq_getElem hkl⟩
      have hcell := cz k z hzk
      have hz := HOK.out z (List.mem_of_getElem? hzk)
      have HS := Lib.hid (flatS_succ hzk)
      have hfl := flatS_len (zs.take k) (fun t ht => HOK.out t (List.mem_of_mem_take ht))
      simp only [List.length_take] at hfl
      have HN : Hid ((l ++ encInt (n : Int) ++ (zs.take k).flatMap encS).length ≤ 100000000) := Lib.hid (by
        rw [List.length_append, List.length_append]
        have := HL.out
        have := encInt_len (n : Int)
        omega)
      clear cz hkl hfl hIz hzk
      have hsz : B ≤ wr.heap.size := Nat.le_trans hB hp.out.2.1.size
      have hltn : (k : Int) < n := by omega
      go_wp2_with fail
      refine (wtext B C _ z ⟨b', off + k, none⟩ wr hp.out.1 hsz HN.out hz hcell).mono ?_
      rintro e w3 ⟨rfl, hq⟩
      have hp3 : Hid (PutW B C (l ++ encInt (n : Int) ++ (zs.take (k + 1)).flatMap encS) w w3) := Lib.hid (by
        rw [HS.out, ← List.append_assoc]
        exact hp.out.trans hq)
      clear hq hp hsz hcell cr hz
      go_wp2_with fail
      go_roundw
      case rel => exact ⟨k + 1, by omega, by go_num, hp3⟩
      case measure => simp [intOf]; omega
    · obtain rfl : n = k := by omega
      have hp3 : Hid (PutW B C (l ++ encM encS zs) w wr) := Lib.hid (by
        have h := hp.out
        rw [← HL0.out, List.take_length, List.append_assoc] at h
        exact h)
      clear hp
      go_wp2
      go_end0
      exact ⟨rfl, hp3.out⟩
theorem wtopics (B C : Nat) (l : List UInt8) (g o : Nat) (cs : Array Value) (t : TypeId) (fr : Nat × Nat) (a : Option Addr) (n c : Nat) (zs : List (List UInt8)) (w : World) (h : IsW B C l w) (hB : B ≤ w.heap.size) (hl : l.length ≤ 10000000)
    (hg : w.heap[g]? = some (.cells cs t fr)) (h5 : t ≠ 5) (h65 : t ≠ 56) (hv : cs[o]? = some (.slice a n c)) (hI : ∀ l' W', PutW B C l' w W' → IsTp W' a n c zs) (hm : (n : Int) ≤ 4) (hok : ∀ z ∈ zs, z.length ≤ 65536) :
    Calls Tryz.prog 82 #[cvW C, .pointer (some ⟨g, o, none⟩)] w fun e w' => e = .returned (.tuple #[]) ∧ PutW B C (l ++ encM encS zs) w w' := by
  have K := Lib.hid (wlistS B C l g o cs t fr a n c zs 4 w h hB hl hg h5 h65 hv hI hm (by omega) hok)
  clear h hg hv hI
  unfold cvW at *
  go_enter Tryz.func82, Tryz.ntmps82
  go_wp2_with fail
  refine K.out.mono ?_
  rintro e w1 ⟨rfl, hq⟩
  have hq1 := Lib.hid hq
  clear hq
  go_wp2
  go_end0
  exact ⟨rfl, hq1.out⟩
set_option maxHeartbeats 4000000 in
theorem wlabel (B C : Nat) (l : List UInt8) (g o : Nat) (cs : Array Value) (t : TypeId) (fr : Nat × Nat) (a : Option Addr) (n c : Nat) (lb : Lab) (w : World) (h : IsW B C l w) (hB : B ≤ w.heap.size) (hl : l.length ≤ 9000000)
    (hg : w.heap[g]? = some (.cells cs t fr)) (h5 : t ≠ 5) (h65 : t ≠ 56) (v0 : cs[o]? = some (.int .i64 lb.u)) (v1 : cs[o + 1]? = some (.slice a n c)) (v2 : cs[o + 2]? = some (.int .i64 lb.ap)) (v3 : cs[o + 3]? = some (.int .i64 lb.d))
    (hI : ∀ l' W', PutW B C l' w W' → IsInts .i64 W' a n c lb.af) (hok : okInt lb.u = true ∧ (((lb.af.length : Int) ≤ 64 ∧ ∀ x ∈ lb.af, okInt x = true) ∧ (okInt lb.ap = true ∧ okInt lb.d = true))) :
    Calls Tryz.prog 40 #[cvW C, .pointer (some ⟨g, o, none⟩)] w fun e w' => e = .returned (.tuple #[]) ∧ PutW B C (l ++ encA lb) w w' := by
  have P0 := Lib.hid (PutW.refl h)
  have HC := Lib.hid (fun l' w' (hp : PutW B C l' w w') => And.intro (cellPutW h hp hg h5 h65 v0) (And.intro (hp.kept h hg h5 h65) (And.intro (cellPutW h hp hg h5 h65 v2) (cellPutW h hp hg h5 h65 v3))))
  have KL := Lib.hid (fun l' w' (hp : PutW B C l' w w') (hB' : B ≤ w'.heap.size) (hl' : l'.length ≤ 10000000) => wlistI B C l' g (o + 1) cs t fr a n c lb.af 64 w' hp.1 hB' hl' (hp.kept h hg h5 h65) h5 h65 v1 (fun l2 W2 h2 => hI l2 W2 (hp.trans h2)) (by have h1 := (hI l w (PutW.refl h)).1; have h2 := hok.2.1.1; rw [h1] at h2; exact h2) (by omega) hok.2.1.2)
  have hm1 := fun w => mW_number ⟨C, 0, none⟩ w
  have ha1 := fun w => aW_number ⟨C, 0, none⟩ w
  have HN : Hid ((encN lb.af).length ≤ 1000) := Lib.hid (by
    have h1 := flat_len lb.af
    have h2 := hok.2.1.1
    have h3 := encInt_len (lb.af.length : Int)
    unfold encN
    rw [List.length_append]
    omega)
  have HU := Lib.hid (encInt_len lb.u)
  have HA := Lib.hid (encInt_len lb.ap)
  have HD := Lib.hid (encInt_len lb.d)
  have HL := Lib.hid hl
  have HOK := Lib.hid hok
  clear h hg hI v0 v1 v2 v3 hok h5 h65 hl
  unfold cvW at *
  go_enter Tryz.func40, Tryz.ntmps40
  go_wp2_with fail
  refine wp_region_held_drew (S := fun w' => 0 ≤ w'.heap.size) (by kernel_rfl) ?_ (fun h0 => ?_)
  · exact Nat.zero_le _
  refine wpAnyH_take (i := 0) (v := ?_) rfl (by kernel_rfl) (by kernel_rfl) (by kernel_rfl) (fun _ _ _ h => h) (Or.inl ⟨by rfl, ?_⟩) h0 ?_
  rotate_left
  · (intro w hSw; (try dsimp only at hSw); go_simp); all_goals (with_reducible rfl)
  try simp only [List.getElem_toArray, List.getElem_cons_succ, List.getElem_cons_zero, Act.put, List.setIfInBounds_toArray, List.set_cons_zero, List.set_cons_succ]
  refine wpAnyH_take (i := 1) (v := ?_) rfl (by kernel_rfl) (by kernel_rfl) (by kernel_rfl) (fun _ _ _ h => h) (Or.inl ⟨by rfl, ?_⟩) h0 ?_
  rotate_left
  · (intro w hSw; (try dsimp only at hSw); go_simp); all_goals (with_reducible rfl)
  try simp only [List.getElem_toArray, List.getElem_cons_succ, List.getElem_cons_zero, Act.put, List.setIfInBounds_toArray, List.set_cons_zero, List.set_cons_succ]
  refine wpAnyH_take (i := 2) (v := ?_) rfl (by kernel_rfl) (by kernel_rfl) (by kernel_rfl) (fun _ _ _ h => h) (Or.inl ⟨by rfl, ?_⟩) h0 ?_
  rotate_left
  · (intro w hSw; (try dsimp only at hSw); go_simp); all_goals (with_reducible rfl)
  try simp only [List.getElem_toArray, List.getElem_cons_succ, List.getElem_cons_zero, Act.put, List.setIfInBounds_toArray, List.set_cons_zero, List.set_cons_succ]
  refine wpAnyH_take (i := 3) (v := ?_) rfl (by kernel_rfl) (by kernel_rfl) (by kernel_rfl) (fun _ _ _ h => h) (Or.inl ⟨by rfl, ?_⟩) h0 ?_
  rotate_left
  · (intro w hSw; (try dsimp only at hSw); go_simp); all_goals (with_reducible rfl)
  try simp only [List.getElem_toArray, List.getElem_cons_succ, List.getElem_cons_zero, Act.put, List.setIfInBounds_toArray, List.set_cons_zero, List.set_cons_succ]
  refine wpAnyH_take (i := 4) (v := ?_) rfl (by kernel_rfl) (by kernel_rfl) (by kernel_rfl) (fun _ _ _ h => h) (Or.inl ⟨by rfl, ?_⟩) h0 ?_
  rotate_left
  · (intro w hSw; (try dsimp only at hSw); go_simp); all_goals (with_reducible rfl)
  try simp only [List.getElem_toArray, List.getElem_cons_succ, List.getElem_cons_zero, Act.put, List.setIfInBounds_toArray, List.set_cons_zero, List.set_cons_succ]
  refine wpAnyH_take (i := 5) (v := ?_) rfl (by kernel_rfl) (by kernel_rfl) (by kernel_rfl) (fun _ _ _ h => h) (Or.inl ⟨by rfl, ?_⟩) h0 ?_
  rotate_left
  · (intro w hSw; (try dsimp only at hSw); go_simp); all_goals (with_reducible rfl)
  try simp only [List.getElem_toArray, List.getElem_cons_succ, List.getElem_cons_zero, Act.put, List.setIfInBounds_toArray, List.set_cons_zero, List.set_cons_succ]
  refine wpAnyH_take (i := 6) (v := ?_) rfl (by kernel_rfl) (by kernel_rfl) (by kernel_rfl) (fun _ _ _ h => h) (Or.inl ⟨by rfl, ?_⟩) h0 ?_
  rotate_left
  · (intro w hSw; (try dsimp only at hSw); go_simp); all_goals (with_reducible rfl)
  try simp only [List.getElem_toArray, List.getElem_cons_succ, List.getElem_cons_zero, Act.put, List.setIfInBounds_toArray, List.set_cons_zero, List.set_cons_succ]
  refine wpAnyH_ready (rs := [7]) (by kernel_rfl) (by simp) ?_
  refine AllReadyH.cons rfl (fun K hK => ?_) AllReadyH.nil
  go_simp
  have hpd := Lib.hid (P0.out.below hB (below_drew w))
  refine (wnumber B C _ ⟨g, o, none⟩ lb.u _ hpd.out.1 (Nat.le_trans hB hpd.out.2.1.size) (by have := HL.out; omega) HOK.out.1 (HC.out _ _ hpd.out).1).mono ?_
  rintro e w1 ⟨rfl, hq⟩
  have Qw1 := Lib.hid (hpd.out.trans hq)
  clear hq hpd
  go_wp2_with fail
  have bS := Nat.zero_le w1.heap.size
  refine hK.out _ _ ?_ (fun h1 => ?_)
  · exact bS
  clear hK K h0 bS
  try simp only [List.getElem_toArray, List.getElem_cons_succ, List.getElem_cons_zero, Act.put, List.setIfInBounds_toArray, List.set_cons_zero, List.set_cons_succ]
  refine wpAnyH_done (by kernel_rfl) ?_ _
  clear h1
  go_wp2_with fail
  refine (KL.out _ w1 Qw1.out (Nat.le_trans hB Qw1.out.2.1.size) (by rw [List.length_append]; have h1 := HL.out; have h2 := HU.out; omega)).mono ?_
  rintro e w2 ⟨rfl, hq⟩
  have Qw2 := Lib.hid (Qw1.out.trans hq)
  clear hq KL
  go_wp2_with fail
  refine wp_region_held_drew (S := fun w' => 0 ≤ w'.heap.size) (by kernel_rfl) ?_ (fun h0 => ?_)
  · exact Nat.zero_le _
  refine wpAnyH_take (i := 0) (v := ?_) rfl (by kernel_rfl) (by kernel_rfl) (by kernel_rfl) (fun _ _ _ h => h) (Or.inl ⟨by rfl, ?_⟩) h0 ?_
  rotate_left
  · (intro w hSw; (try dsimp only at hSw); go_simp); all_goals (with_reducible rfl)
  try simp only [List.getElem_toArray, List.getElem_cons_succ, List.getElem_cons_zero, Act.put, List.setIfInBounds_toArray, List.set_cons_zero, List.set_cons_succ]
  refine wpAnyH_take (i := 1) (v := ?_) rfl (by kernel_rfl) (by kernel_rfl) (by kernel_rfl) (fun _ _ _ h => h) (Or.inl ⟨by rfl, ?_⟩) h0 ?_
  rotate_left
  · (intro w hSw; (try dsimp only at hSw); go_simp); all_goals (with_reducible rfl)
  try simp only [List.getElem_toArray, List.getElem_cons_succ, List.getElem_cons_zero, Act.put, List.setIfInBounds_toArray, List.set_cons_zero, List.set_cons_succ]
  refine wpAnyH_take (i := 2) (v := ?_) rfl (by kernel_rfl) (by kernel_rfl) (by kernel_rfl) (fun _ _ _ h => h) (Or.inl ⟨by rfl, ?_⟩) h0 ?_
  rotate_left
  · (intro w hSw; (try dsimp only at hSw); go_simp); all_goals (with_reducible rfl)
  try simp only [List.getElem_toArray, List.getElem_cons_succ, List.getElem_cons_zero, Act.put, List.setIfInBounds_toArray, List.set_cons_zero, List.set_cons_succ]
  refine wpAnyH_take (i := 3) (v := ?_) rfl (by kernel_rfl) (by kernel_rfl) (by kernel_rfl) (fun _ _ _ h => h) (Or.inl ⟨by rfl, ?_⟩) h0 ?_
  rotate_left
  · (intro w hSw; (try dsimp only at hSw); go_simp); all_goals (with_reducible rfl)
  try simp only [List.getElem_toArray, List.getElem_cons_succ, List.getElem_cons_zero, Act.put, List.setIfInBounds_toArray, List.set_cons_zero, List.set_cons_succ]
  refine wpAnyH_take (i := 4) (v := ?_) rfl (by kernel_rfl) (by kernel_rfl) (by kernel_rfl) (fun _ _ _ h => h) (Or.inl ⟨by rfl, ?_⟩) h0 ?_
  rotate_left
  · (intro w hSw; (try dsimp only at hSw); go_simp); all_goals (with_reducible rfl)
  try simp only [List.getElem_toArray, List.getElem_cons_succ, List.getElem_cons_zero, Act.put, List.setIfInBounds_toArray, List.set_cons_zero, List.set_cons_succ]
  refine wpAnyH_take (i := 5) (v := ?_) rfl (by kernel_rfl) (by kernel_rfl) (by kernel_rfl) (fun _ _ _ h => h) (Or.inl ⟨by rfl, ?_⟩) h0 ?_
  rotate_left
  · (intro w hSw; (try dsimp only at hSw); go_simp); all_goals (with_reducible rfl)
  try simp only [List.getElem_toArray, List.getElem_cons_succ, List.getElem_cons_zero, Act.put, List.setIfInBounds_toArray, List.set_cons_zero, List.set_cons_succ]
  refine wpAnyH_take (i := 6) (v := ?_) rfl (by kernel_rfl) (by kernel_rfl) (by kernel_rfl) (fun _ _ _ h => h) (Or.inl ⟨by rfl, ?_⟩) h0 ?_
  rotate_left
  · (intro w hSw; (try dsimp only at hSw); go_simp); all_goals (with_reducible rfl)
  try simp only [List.getElem_toArray, List.getElem_cons_succ, List.getElem_cons_zero, Act.put, List.setIfInBounds_toArray, List.set_cons_zero, List.set_cons_succ]
  refine wpAnyH_ready (rs := [7]) (by kernel_rfl) (by simp) ?_
  refine AllReadyH.cons rfl (fun K hK => ?_) AllReadyH.nil
  go_simp
  have hpd := Lib.hid (Qw2.out.below hB (below_drew w2))
  refine (wnumber B C _ ⟨g, o + 2, none⟩ lb.ap _ hpd.out.1 (Nat.le_trans hB hpd.out.2.1.size) (by rw [List.length_append, List.length_append]; have h1 := HL.out; have h2 := HU.out; have h3 := HN.out; omega) HOK.out.2.2.1 (HC.out _ _ hpd.out).2.2.1).mono ?_
  rintro e w3 ⟨rfl, hq⟩
  have Qw3 := Lib.hid (hpd.out.trans hq)
  clear hq hpd
  go_wp2_with fail
  have bS := Nat.zero_le w3.heap.size
  refine hK.out _ _ ?_ (fun h1 => ?_)
  · exact bS
  clear hK K h0 bS
  try simp only [List.getElem_toArray, List.getElem_cons_succ, List.getElem_cons_zero, Act.put, List.setIfInBounds_toArray, List.set_cons_zero, List.set_cons_succ]
  refine wpAnyH_done (by kernel_rfl) ?_ _
  clear h1
  go_wp2_with fail
  refine wp_region_held_drew (S := fun w' => 0 ≤ w'.heap.size) (by kernel_rfl) ?_ (fun h0 => ?_)
  · exact Nat.zero_le _
  refine wpAnyH_take (i := 0) (v := ?_) rfl (by kernel_rfl) (by kernel_rfl) (by kernel_rfl) (fun _ _ _ h => h) (Or.inl ⟨by rfl, ?_⟩) h0 ?_
  rotate_left
  · (intro w hSw; (try dsimp only at hSw); go_simp); all_goals (with_reducible rfl)
  try simp only [List.getElem_toArray, List.getElem_cons_succ, List.getElem_cons_zero, Act.put, List.setIfInBounds_toArray, List.set_cons_zero, List.set_cons_succ]
  refine wpAnyH_take (i := 1) (v := ?_) rfl (by kernel_rfl) (by kernel_rfl) (by kernel_rfl) (fun _ _ _ h => h) (Or.inl ⟨by rfl, ?_⟩) h0 ?_
  rotate_left
  · (intro w hSw; (try dsimp only at hSw); go_simp); all_goals (with_reducible rfl)
  try simp only [List.getElem_toArray, List.getElem_cons_succ, List.getElem_cons_zero, Act.put, List.setIfInBounds_toArray, List.set_cons_zero, List.set_cons_succ]
  refine wpAnyH_take (i := 2) (v := ?_) rfl (by kernel_rfl) (by kernel_rfl) (by kernel_rfl) (fun _ _ _ h => h) (Or.inl ⟨by rfl, ?_⟩) h0 ?_
  rotate_left
  · (intro w hSw; (try dsimp only at hSw); go_simp); all_goals (with_reducible rfl)
  try simp only [List.getElem_toArray, List.getElem_cons_succ, List.getElem_cons_zero, Act.put, List.setIfInBounds_toArray, List.set_cons_zero, List.set_cons_succ]
  refine wpAnyH_take (i := 3) (v := ?_) rfl (by kernel_rfl) (by kernel_rfl) (by kernel_rfl) (fun _ _ _ h => h) (Or.inl ⟨by rfl, ?_⟩) h0 ?_
  rotate_left
  · (intro w hSw; (try dsimp only at hSw); go_simp); all_goals (with_reducible rfl)
  try simp only [List.getElem_toArray, List.getElem_cons_succ, List.getElem_cons_zero, Act.put, List.setIfInBounds_toArray, List.set_cons_zero, List.set_cons_succ]
  refine wpAnyH_take (i := 4) (v := ?_) rfl (by kernel_rfl) (by kernel_rfl) (by kernel_rfl) (fun _ _ _ h => h) (Or.inl ⟨by rfl, ?_⟩) h0 ?_
  rotate_left
  · (intro w hSw; (try dsimp only at hSw); go_simp); all_goals (with_reducible rfl)
  try simp only [List.getElem_toArray, List.getElem_cons_succ, List.getElem_cons_zero, Act.put, List.setIfInBounds_toArray, List.set_cons_zero, List.set_cons_succ]
  refine wpAnyH_take (i := 5) (v := ?_) rfl (by kernel_rfl) (by kernel_rfl) (by kernel_rfl) (fun _ _ _ h => h) (Or.inl ⟨by rfl, ?_⟩) h0 ?_
  rotate_left
  · (intro w hSw; (try dsimp only at hSw); go_simp); all_goals (with_reducible rfl)
  try simp only [List.getElem_toArray, List.getElem_cons_succ, List.getElem_cons_zero, Act.put, List.setIfInBounds_toArray, List.set_cons_zero, List.set_cons_succ]
  refine wpAnyH_take (i := 6) (v := ?_) rfl (by kernel_rfl) (by kernel_rfl) (by kernel_rfl) (fun _ _ _ h => h) (Or.inl ⟨by rfl, ?_⟩) h0 ?_
  rotate_left
  · (intro w hSw; (try dsimp only at hSw); go_simp); all_goals (with_reducible rfl)
  try simp only [List.getElem_toArray, List.getElem_cons_succ, List.getElem_cons_zero, Act.put, List.setIfInBounds_toArray, List.set_cons_zero, List.set_cons_succ]
  refine wpAnyH_ready (rs := [7]) (by kernel_rfl) (by simp) ?_
  refine AllReadyH.cons rfl (fun K hK => ?_) AllReadyH.nil
  go_simp
  have hpd := Lib.hid (Qw3.out.below hB (below_drew w3))
  refine (wnumber B C _ ⟨g, o + 3, none⟩ lb.d _ hpd.out.1 (Nat.le_trans hB hpd.out.2.1.size) (by rw [List.length_append, List.length_append, List.length_append]; have h1 := HL.out; have h2 := HU.out; have h3 := HN.out; have h4 := HA.out; omega) HOK.out.2.2.2 (HC.out _ _ hpd.out).2.2.2).mono ?_
  rintro e w4 ⟨rfl, hq⟩
  have Qw4 := Lib.hid (hpd.out.trans hq)
  clear hq hpd
  go_wp2_with fail
  have bS := Nat.zero_le w4.heap.size
  refine hK.out _ _ ?_ (fun h1 => ?_)
  · exact bS
  clear hK K h0 bS
  try simp only [List.getElem_toArray, List.getElem_cons_succ, List.getElem_cons_zero, Act.put, List.setIfInBounds_toArray, List.set_cons_zero, List.set_cons_succ]
  refine wpAnyH_done (by kernel_rfl) ?_ _
  clear h1
  have QF : Hid (PutW B C (l ++ encA lb) w w4) := Lib.hid (by
    have h := Qw4.out
    unfold encA
    simpa only [List.append_assoc] using h)
  clear Qw1 Qw2 Qw3 Qw4
  go_wp2
  go_end0
  exact ⟨rfl, QF.out⟩
end Go.Proofs.YtlhcckjfgpcohaaGreatDoor
namespace Go.Proofs.YtlhcckjfgpcohaaGreatDoor
open Go.RowKit Go.MapKept
set_option maxRecDepth 100000
set_option linter.unusedSimpArgs false
set_option linter.unusedVariables false
theorem Blk1.putW {B C g : Nat} {l l' : List UInt8} {w w' : World} {v : Value} (hI : IsW B C l w) (h : PutW B C l' w w') (b : Blk1 w g v) : Blk1 w' g v := by
  obtain ⟨t, ht⟩ := b
  exact ⟨t, h.kept hI ht t.2.1 t.2.2.1⟩
theorem TstAt.putW {B C g : Nat} {l l' : List UInt8} {w w' : World} {x : Fld} (hI : IsW B C l w) (h : PutW B C l' w w') (b : TstAt w x g) : TstAt w' x g := by
  unfold TstAt at b ⊢
  split
  · rename_i q
    rw [q] at b
    obtain ⟨lo, hi, h1, h2, h3⟩ := b
    exact ⟨lo, hi, h1.putW hI h, h2.putW hI h, h3.putW hI h⟩
  · rename_i q
    split at b
    · rename_i q2; exact absurd q2 q
    · exact b.putW hI h
theorem IsFld.putW {B C : Nat} {l l' : List UInt8} {w w' : World} {x : Fld} {v : V3} (hI : IsW B C l w) (h : PutW B C l' w w') (b : IsFld w x v) : IsFld w' x v := by
  obtain ⟨g3, g4, g5, h0, h1, h2, h3⟩ := b
  exact ⟨g3, g4, g5, h0, h1.putW hI h, h2.putW hI h, h3.putW hI h⟩
theorem Flds.putW {B C : Nat} {l l' : List UInt8} {w w' : World} (hI : IsW B C l w) (h : PutW B C l' w w') : ∀ {fl : List Fld} {vs : List V3}, Flds w fl vs → Flds w' fl vs
  | [], [], _ => trivial
  | x :: fl, v :: vs, b => ⟨b.1.putW hI h, Flds.putW hI h b.2⟩
  | [], _ :: _, b => b
  | _ :: _, [], b => b
theorem IsFls.putW {B C : Nat} {l l' : List UInt8} {w w' : World} {a : Option Addr} {n c : Nat} {fl : List Fld} (hI : IsW B C l w) (h : PutW B C l' w w') (b : IsFls w a n c fl) : IsFls w' a n c fl := by
  obtain ⟨vs, ⟨h1, h2, h3, h4, g, off, e5, h6, h7⟩, hf⟩ := b
  obtain ⟨cs, t, fr, hh⟩ := h6
  have hk := h.kept hI hh t.2.1 t.2.2.1
  refine ⟨vs, ⟨h1, h2, h3, h4, g, off, e5, ⟨cs, t, fr, hk⟩, fun k v hv j u hu => ?_⟩, hf.putW hI h⟩
  have hc := h7 k v hv j u hu
  rw [Joins.cell_of_block hh] at hc
  rw [Joins.cell_of_block hk]
  exact hc
theorem FcAt.putW {B C Bf : Nat} {l l' : List UInt8} {w w' : World} {e : FE} (hI : IsW B C l w) (h : PutW B C l' w w') (b : FcAt w Bf e) : FcAt w' Bf e := h.kept hI b (by decide) (by decide)
set_option maxHeartbeats 2000000 in
theorem w1_i (B C : Nat) (l : List UInt8) (p Bf g3 g4 : Nat) (e : FE) (o : Nat) (n : Int) (w : World) (h : IsW B C l w) (hB : B ≤ w.heap.size) (hl : l.length ≤ 5000000) (hp : Hid (Finds p Bf o)) (hF : FcAt w Bf e) (b3 : Blk1 w g3 (.func (.func p) #[] #[])) (b4 : Blk1 w g4 (.func (.methodOf 79 "copydesk/fact.number") #[] #[])) (hn : w.cell? ⟨Bf, o, none⟩ = some (.int .i64 n)) (hok : okInt n = true) :
    Calls Tryz.prog 89 #[cvW C, pt Bf, pt g4, pt g3] w fun r w' => r = .returned (.tuple #[]) ∧ PutW B C (l ++ encInt n) w w' := by
  have P0 := Lib.hid (PutW.refl h)
  have hpd := Lib.hid (P0.out.below hB (below_drew w))
  have hBd : B ≤ w.drew.heap.size := Nat.le_trans hB hpd.out.2.1.size
  have KC := Lib.hid (wnumber B C l ⟨Bf, o, none⟩ n w.drew hpd.out.1 hBd (by omega) hok hn)
  have HS := Lib.hid (fun l' w' (hp : PutW B C l' w w') => And.intro (b4.putW h hp).cell (b3.putW h hp).cell)
  have h3 := b3.cell
  have h4 := b4.cell
  have hcf := hp.out.enter
  have hm1 := fun w => mW_number ⟨C, 0, none⟩ w
  clear h hF b3 b4
  unfold cvW at *
  go_enter Tryz.func89, Tryz.ntmps89
  go_wp2_with fail
  refine wp_region_held_drew (S := fun w' => w'.cell? ⟨g4, 0, none⟩ = some (.func (.methodOf 79 "copydesk/fact.number") #[] #[]) ∧ w'.cell? ⟨g3, 0, none⟩ = some (.func (.func p) #[] #[])) (by kernel_rfl) ?_ (fun h0 => ?_)
  · exact ⟨h4, h3⟩
  refine wpAnyH_take (i := 0) (v := ?_) rfl (by kernel_rfl) (by kernel_rfl) (by kernel_rfl) (fun _ _ _ h => h) (Or.inl ⟨by rfl, ?_⟩) h0 ?_
  rotate_left
  · (intro w hSw; (try dsimp only at hSw); go_simp); all_goals (with_reducible rfl)
  try simp only [List.getElem_toArray, List.getElem_cons_succ, List.getElem_cons_zero, Act.put, List.setIfInBounds_toArray, List.set_cons_zero, List.set_cons_succ]
  refine wpAnyH_take (i := 1) (v := ?_) rfl (by kernel_rfl) (by kernel_rfl) (by kernel_rfl) (fun _ _ _ h => h) (Or.inl ⟨by rfl, ?_⟩) h0 ?_
  rotate_left
  · (intro w hSw; (try dsimp only at hSw); go_simp); all_goals (with_reducible rfl)
  try simp only [List.getElem_toArray, List.getElem_cons_succ, List.getElem_cons_zero, Act.put, List.setIfInBounds_toArray, List.set_cons_zero, List.set_cons_succ]
  refine wpAnyH_take (i := 2) (v := ?_) rfl (by kernel_rfl) (by kernel_rfl) (by kernel_rfl) (fun _ _ _ h => h) (Or.inl ⟨by rfl, ?_⟩) h0 ?_
  rotate_left
  · (intro w hSw; (try dsimp only at hSw); go_simp); all_goals (with_reducible rfl)
  try simp only [List.getElem_toArray, List.getElem_cons_succ, List.getElem_cons_zero, Act.put, List.setIfInBounds_toArray, List.set_cons_zero, List.set_cons_succ]
  refine wpAnyH_take (i := 3) (v := ?_) rfl (by kernel_rfl) (by kernel_rfl) (by kernel_rfl) (fun _ _ _ h => h) (Or.inl ⟨by rfl, ?_⟩) h0 ?_
  rotate_left
  · (intro w hSw; (try dsimp only at hSw); go_simp); all_goals (with_reducible rfl)
  try simp only [List.getElem_toArray, List.getElem_cons_succ, List.getElem_cons_zero, Act.put, List.setIfInBounds_toArray, List.set_cons_zero, List.set_cons_succ]
  refine wpAnyH_ready (rs := [4]) (by kernel_rfl) (by simp) ?_
  refine AllReadyH.cons rfl (fun K hK => ?_) AllReadyH.nil
  go_simp
  refine (hp.out.call _).mono ?_
  rintro e w1 ⟨rfl, rfl⟩
  go_wp2_with fail
  have bS := h0
  refine hK.out _ _ ?_ (fun h1 => ?_)
  · exact bS
  clear hK K h0 bS
  try simp only [List.getElem_toArray, List.getElem_cons_succ, List.getElem_cons_zero, Act.put, List.setIfInBounds_toArray, List.set_cons_zero, List.set_cons_succ]
  refine wpAnyH_ready (rs := [5]) (by kernel_rfl) (by simp) ?_
  refine AllReadyH.cons rfl (fun K hK => ?_) AllReadyH.nil
  go_simp
  refine KC.out.mono ?_
  rintro e w2 ⟨rfl, hq⟩
  have Q2 := Lib.hid (hpd.out.trans hq)
  clear hq
  go_wp2_with fail
  have bS := HS.out _ _ Q2.out
  refine hK.out _ _ ?_ (fun h2 => ?_)
  · exact bS
  clear hK K h1 bS
  try simp only [List.getElem_toArray, List.getElem_cons_succ, List.getElem_cons_zero, Act.put, List.setIfInBounds_toArray, List.set_cons_zero, List.set_cons_succ]
  refine wpAnyH_done (by kernel_rfl) ?_ _
  clear h2
  go_wp2
  go_end0
  exact ⟨rfl, Q2.out⟩
set_option maxHeartbeats 2000000 in
theorem w1_s (B C : Nat) (l : List UInt8) (p Bf g3 g4 : Nat) (e : FE) (o : Nat) (z : List UInt8) (w : World) (h : IsW B C l w) (hB : B ≤ w.heap.size) (hl : l.length ≤ 5000000) (hp : Hid (Finds p Bf o)) (hF : FcAt w Bf e) (b3 : Blk1 w g3 (.func (.func p) #[] #[])) (b4 : Blk1 w g4 (.func (.methodOf 79 "copydesk/fact.text") #[] #[])) (hn : w.cell? ⟨Bf, o, none⟩ = some (.string ⟨z.toArray⟩)) (hok : z.length ≤ 65536) :
    Calls Tryz.prog 92 #[cvW C, pt Bf, pt g4, pt g3] w fun r w' => r = .returned (.tuple #[]) ∧ PutW B C (l ++ encS z) w w' := by
  have P0 := Lib.hid (PutW.refl h)
  have hpd := Lib.hid (P0.out.below hB (below_drew w))
  have hBd : B ≤ w.drew.heap.size := Nat.le_trans hB hpd.out.2.1.size
  have KC := Lib.hid (wtext B C l z ⟨Bf, o, none⟩ w.drew hpd.out.1 hBd (by omega) hok hn)
  have HS := Lib.hid (fun l' w' (hp : PutW B C l' w w') => And.intro (b4.putW h hp).cell (b3.putW h hp).cell)
  have h3 := b3.cell
  have h4 := b4.cell
  have hcf := hp.out.enter
  have hm1 := fun w => mW_text ⟨C, 0, none⟩ w
  clear h hF b3 b4
  unfold cvW at *
  go_enter Tryz.func92, Tryz.ntmps92
  go_wp2_with fail
  refine wp_region_held_drew (S := fun w' => w'.cell? ⟨g4, 0, none⟩ = some (.func (.methodOf 79 "copydesk/fact.text") #[] #[]) ∧ w'.cell? ⟨g3, 0, none⟩ = some (.func (.func p) #[] #[])) (by kernel_rfl) ?_ (fun h0 => ?_)
  · exact ⟨h4, h3⟩
  refine wpAnyH_take (i := 0) (v := ?_) rfl (by kernel_rfl) (by kernel_rfl) (by kernel_rfl) (fun _ _ _ h => h) (Or.inl ⟨by rfl, ?_⟩) h0 ?_
  rotate_left
  · (intro w hSw; (try dsimp only at hSw); go_simp); all_goals (with_reducible rfl)
  try simp only [List.getElem_toArray, List.getElem_cons_succ, List.getElem_cons_zero, Act.put, List.setIfInBounds_toArray, List.set_cons_zero, List.set_cons_succ]
  refine wpAnyH_take (i := 1) (v := ?_) rfl (by kernel_rfl) (by kernel_rfl) (by kernel_rfl) (fun _ _ _ h => h) (Or.inl ⟨by rfl, ?_⟩) h0 ?_
  rotate_left
  · (intro w hSw; (try dsimp only at hSw); go_simp); all_goals (with_reducible rfl)
  try simp only [List.getElem_toArray, List.getElem_cons_succ, List.getElem_cons_zero, Act.put, List.setIfInBounds_toArray, List.set_cons_zero, List.set_cons_succ]
  refine wpAnyH_take (i := 2) (v := ?_) rfl (by kernel_rfl) (by kernel_rfl) (by kernel_rfl) (fun _ _ _ h => h) (Or.inl ⟨by rfl, ?_⟩) h0 ?_
  rotate_left
  · (intro w hSw; (try dsimp only at hSw); go_simp); all_goals (with_reducible rfl)
  try simp only [List.getElem_toArray, List.getElem_cons_succ, List.getElem_cons_zero, Act.put, List.setIfInBounds_toArray, List.set_cons_zero, List.set_cons_succ]
  refine wpAnyH_take (i := 3) (v := ?_) rfl (by kernel_rfl) (by kernel_rfl) (by kernel_rfl) (fun _ _ _ h => h) (Or.inl ⟨by rfl, ?_⟩) h0 ?_
  rotate_left
  · (intro w hSw; (try dsimp only at hSw); go_simp); all_goals (with_reducible rfl)
  try simp only [List.getElem_toArray, List.getElem_cons_succ, List.getElem_cons_zero, Act.put, List.setIfInBounds_toArray, List.set_cons_zero, List.set_cons_succ]
  refine wpAnyH_ready (rs := [4]) (by kernel_rfl) (by simp) ?_
  refine AllReadyH.cons rfl (fun K hK => ?_) AllReadyH.nil
  go_simp
  refine (hp.out.call _).mono ?_
  rintro e w1 ⟨rfl, rfl⟩
  go_wp2_with fail
  have bS := h0
  refine hK.out _ _ ?_ (fun h1 => ?_)
  · exact bS
  clear hK K h0 bS
  try simp only [List.getElem_toArray, List.getElem_cons_succ, List.getElem_cons_zero, Act.put, List.setIfInBounds_toArray, List.set_cons_zero, List.set_cons_succ]
  refine wpAnyH_ready (rs := [5]) (by kernel_rfl) (by simp) ?_
  refine AllReadyH.cons rfl (fun K hK => ?_) AllReadyH.nil
  go_simp
  refine KC.out.mono ?_
  rintro e w2 ⟨rfl, hq⟩
  have Q2 := Lib.hid (hpd.out.trans hq)
  clear hq
  go_wp2_with fail
  have bS := HS.out _ _ Q2.out
  refine hK.out _ _ ?_ (fun h2 => ?_)
  · exact bS
  clear hK K h1 bS
  try simp only [List.getElem_toArray, List.getElem_cons_succ, List.getElem_cons_zero, Act.put, List.setIfInBounds_toArray, List.set_cons_zero, List.set_cons_succ]
  refine wpAnyH_done (by kernel_rfl) ?_ _
  clear h2
  go_wp2
  go_end0
  exact ⟨rfl, Q2.out⟩
set_option maxHeartbeats 2000000 in
theorem w1_b (B C : Nat) (l : List UInt8) (p Bf g3 g4 : Nat) (e : FE) (o : Nat) (a : Option Addr) (n c : Nat) (bl : List Blk) (w : World) (h : IsW B C l w) (hB : B ≤ w.heap.size) (hl : l.length ≤ 5000000) (hp : Hid (Finds p Bf o)) (hF : FcAt w Bf e) (b3 : Blk1 w g3 (.func (.func p) #[] #[])) (b4 : Blk1 w g4 (.func (.methodOf 79 "copydesk/fact.blocks") #[] #[])) (hn : w.cell? ⟨Bf, o, none⟩ = some (.slice a n c)) (hI : IsBl w.drew a n c bl) (hok : vL bl = true) :
    Calls Tryz.prog 99 #[cvW C, pt Bf, pt g4, pt g3] w fun r w' => r = .returned (.tuple #[]) ∧ PutW B C (l ++ encS (encL bl)) w w' := by
  have P0 := Lib.hid (PutW.refl h)
  have hpd := Lib.hid (P0.out.below hB (below_drew w))
  have hBd : B ≤ w.drew.heap.size := Nat.le_trans hB hpd.out.2.1.size
  have KC := Lib.hid (wblocks B C l a n c bl ⟨Bf, o, none⟩ w.drew hpd.out.1 hBd (by omega) hok hI hn)
  have HS := Lib.hid (fun l' w' (hp : PutW B C l' w w') => And.intro (b4.putW h hp).cell (b3.putW h hp).cell)
  have h3 := b3.cell
  have h4 := b4.cell
  have hcf := hp.out.enter
  have hm1 := fun w => mW_blocks ⟨C, 0, none⟩ w
  clear h hF b3 b4
  unfold cvW at *
  go_enter Tryz.func99, Tryz.ntmps99
  go_wp2_with fail
  refine wp_region_held_drew (S := fun w' => w'.cell? ⟨g4, 0, none⟩ = some (.func (.methodOf 79 "copydesk/fact.blocks") #[] #[]) ∧ w'.cell? ⟨g3, 0, none⟩ = some (.func (.func p) #[] #[])) (by kernel_rfl) ?_ (fun h0 => ?_)
  · exact ⟨h4, h3⟩
  refine wpAnyH_take (i := 0) (v := ?_) rfl (by kernel_rfl) (by kernel_rfl) (by kernel_rfl) (fun _ _ _ h => h) (Or.inl ⟨by rfl, ?_⟩) h0 ?_
  rotate_left
  · (intro w hSw; (try dsimp only at hSw); go_simp); all_goals (with_reducible rfl)
  try simp only [List.getElem_toArray, List.getElem_cons_succ, List.getElem_cons_zero, Act.put, List.setIfInBounds_toArray, List.set_cons_zero, List.set_cons_succ]
  refine wpAnyH_take (i := 1) (v := ?_) rfl (by kernel_rfl) (by kernel_rfl) (by kernel_rfl) (fun _ _ _ h => h) (Or.inl ⟨by rfl, ?_⟩) h0 ?_
  rotate_left
  · (intro w hSw; (try dsimp only at hSw); go_simp); all_goals (with_reducible rfl)
  try simp only [List.getElem_toArray, List.getElem_cons_succ, List.getElem_cons_zero, Act.put, List.setIfInBounds_toArray, List.set_cons_zero, List.set_cons_succ]
  refine wpAnyH_take (i := 2) (v := ?_) rfl (by kernel_rfl) (by kernel_rfl) (by kernel_rfl) (fun _ _ _ h => h) (Or.inl ⟨by rfl, ?_⟩) h0 ?_
  rotate_left
  · (intro w hSw; (try dsimp only at hSw); go_simp); all_goals (with_reducible rfl)
  try simp only [List.getElem_toArray, List.getElem_cons_succ, List.getElem_cons_zero, Act.put, List.setIfInBounds_toArray, List.set_cons_zero, List.set_cons_succ]
  refine wpAnyH_take (i := 3) (v := ?_) rfl (by kernel_rfl) (by kernel_rfl) (by kernel_rfl) (fun _ _ _ h => h) (Or.inl ⟨by rfl, ?_⟩) h0 ?_
  rotate_left
  · (intro w hSw; (try dsimp only at hSw); go_simp); all_goals (with_reducible rfl)
  try simp only [List.getElem_toArray, List.getElem_cons_succ, List.getElem_cons_zero, Act.put, List.setIfInBounds_toArray, List.set_cons_zero, List.set_cons_succ]
  refine wpAnyH_ready (rs := [4]) (by kernel_rfl) (by simp) ?_
  refine AllReadyH.cons rfl (fun K hK => ?_) AllReadyH.nil
  go_simp
  refine (hp.out.call _).mono ?_
  rintro e w1 ⟨rfl, rfl⟩
  go_wp2_with fail
  have bS := h0
  refine hK.out _ _ ?_ (fun h1 => ?_)
  · exact bS
  clear hK K h0 bS
  try simp only [List.getElem_toArray, List.getElem_cons_succ, List.getElem_cons_zero, Act.put, List.setIfInBounds_toArray, List.set_cons_zero, List.set_cons_succ]
  refine wpAnyH_ready (rs := [5]) (by kernel_rfl) (by simp) ?_
  refine AllReadyH.cons rfl (fun K hK => ?_) AllReadyH.nil
  go_simp
  refine KC.out.mono ?_
  rintro e w2 ⟨rfl, hq⟩
  have Q2 := Lib.hid (hpd.out.trans hq)
  clear hq
  go_wp2_with fail
  have bS := HS.out _ _ Q2.out
  refine hK.out _ _ ?_ (fun h2 => ?_)
  · exact bS
  clear hK K h1 bS
  try simp only [List.getElem_toArray, List.getElem_cons_succ, List.getElem_cons_zero, Act.put, List.setIfInBounds_toArray, List.set_cons_zero, List.set_cons_succ]
  refine wpAnyH_done (by kernel_rfl) ?_ _
  clear h2
  go_wp2
  go_end0
  exact ⟨rfl, Q2.out⟩
set_option maxHeartbeats 2000000 in
theorem w1_t (B C : Nat) (l : List UInt8) (p Bf g3 g4 : Nat) (e : FE) (o : Nat) (a : Option Addr) (n c : Nat) (zs : List (List UInt8)) (w : World) (h : IsW B C l w) (hB : B ≤ w.heap.size) (hl : l.length ≤ 5000000) (hp : Hid (Finds p Bf o)) (hF : FcAt w Bf e) (b3 : Blk1 w g3 (.func (.func p) #[] #[])) (b4 : Blk1 w g4 (.func (.func 82) #[] #[])) (hn : (elF e).toArray[o]? = some (.slice a n c)) (hI : ∀ l' W', PutW B C l' w W' → IsTp W' a n c zs) (hm : (zs.length : Int) ≤ 4) (hok : ∀ z ∈ zs, z.length ≤ 65536) :
    Calls Tryz.prog 95 #[cvW C, pt Bf, pt g4, pt g3] w fun r w' => r = .returned (.tuple #[]) ∧ PutW B C (l ++ encM encS zs) w w' := by
  have P0 := Lib.hid (PutW.refl h)
  have hpd := Lib.hid (P0.out.below hB (below_drew w))
  have hBd : B ≤ w.drew.heap.size := Nat.le_trans hB hpd.out.2.1.size
  have KC := Lib.hid (wtopics B C l Bf o (elF e).toArray 28 (0, 0) a n c zs w.drew hpd.out.1 hBd (by omega) hF (by decide) (by decide) hn (fun l2 W2 h2 => hI l2 W2 (hpd.out.trans h2)) (by have h1 := (hI l w (PutW.refl h)).1; omega) hok)
  have HS := Lib.hid (fun l' w' (hp : PutW B C l' w w') => And.intro (b4.putW h hp).cell (b3.putW h hp).cell)
  have h3 := b3.cell
  have h4 := b4.cell
  have hcf := hp.out.enter
  clear h hF b3 b4
  unfold cvW at *
  go_enter Tryz.func95, Tryz.ntmps95
  go_wp2_with fail
  refine wp_region_held_drew (S := fun w' => w'.cell? ⟨g4, 0, none⟩ = some (.func (.func 82) #[] #[]) ∧ w'.cell? ⟨g3, 0, none⟩ = some (.func (.func p) #[] #[])) (by kernel_rfl) ?_ (fun h0 => ?_)
  · exact ⟨h4, h3⟩
  refine wpAnyH_take (i := 0) (v := ?_) rfl (by kernel_rfl) (by kernel_rfl) (by kernel_rfl) (fun _ _ _ h => h) (Or.inl ⟨by rfl, ?_⟩) h0 ?_
  rotate_left
  · (intro w hSw; (try dsimp only at hSw); go_simp); all_goals (with_reducible rfl)
  try simp only [List.getElem_toArray, List.getElem_cons_succ, List.getElem_cons_zero, Act.put, List.setIfInBounds_toArray, List.set_cons_zero, List.set_cons_succ]
  refine wpAnyH_take (i := 1) (v := ?_) rfl (by kernel_rfl) (by kernel_rfl) (by kernel_rfl) (fun _ _ _ h => h) (Or.inl ⟨by rfl, ?_⟩) h0 ?_
  rotate_left
  · (intro w hSw; (try dsimp only at hSw); go_simp); all_goals (with_reducible rfl)
  try simp only [List.getElem_toArray, List.getElem_cons_succ, List.getElem_cons_zero, Act.put, List.setIfInBounds_toArray, List.set_cons_zero, List.set_cons_succ]
  refine wpAnyH_take (i := 2) (v := ?_) rfl (by kernel_rfl) (by kernel_rfl) (by kernel_rfl) (fun _ _ _ h => h) (Or.inl ⟨by rfl, ?_⟩) h0 ?_
  rotate_left
  · (intro w hSw; (try dsimp only at hSw); go_simp); all_goals (with_reducible rfl)
  try simp only [List.getElem_toArray, List.getElem_cons_succ, List.getElem_cons_zero, Act.put, List.setIfInBounds_toArray, List.set_cons_zero, List.set_cons_succ]
  refine wpAnyH_take (i := 3) (v := ?_) rfl (by kernel_rfl) (by kernel_rfl) (by kernel_rfl) (fun _ _ _ h => h) (Or.inl ⟨by rfl, ?_⟩) h0 ?_
  rotate_left
  · (intro w hSw; (try dsimp only at hSw); go_simp); all_goals (with_reducible rfl)
  try simp only [List.getElem_toArray, List.getElem_cons_succ, List.getElem_cons_zero, Act.put, List.setIfInBounds_toArray, List.set_cons_zero, List.set_cons_succ]
  refine wpAnyH_ready (rs := [4]) (by kernel_rfl) (by simp) ?_
  refine AllReadyH.cons rfl (fun K hK => ?_) AllReadyH.nil
  go_simp
  refine (hp.out.call _).mono ?_
  rintro e w1 ⟨rfl, rfl⟩
  go_wp2_with fail
  have bS := h0
  refine hK.out _ _ ?_ (fun h1 => ?_)
  · exact bS
  clear hK K h0 bS
  try simp only [List.getElem_toArray, List.getElem_cons_succ, List.getElem_cons_zero, Act.put, List.setIfInBounds_toArray, List.set_cons_zero, List.set_cons_succ]
  refine wpAnyH_ready (rs := [5]) (by kernel_rfl) (by simp) ?_
  refine AllReadyH.cons rfl (fun K hK => ?_) AllReadyH.nil
  go_simp
  refine KC.out.mono ?_
  rintro e w2 ⟨rfl, hq⟩
  have Q2 := Lib.hid (hpd.out.trans hq)
  clear hq
  go_wp2_with fail
  have bS := HS.out _ _ Q2.out
  refine hK.out _ _ ?_ (fun h2 => ?_)
  · exact bS
  clear hK K h1 bS
  try simp only [List.getElem_toArray, List.getElem_cons_succ, List.getElem_cons_zero, Act.put, List.setIfInBounds_toArray, List.set_cons_zero, List.set_cons_succ]
  refine wpAnyH_done (by kernel_rfl) ?_ _
  clear h2
  go_wp2
  go_end0
  exact ⟨rfl, Q2.out⟩
set_option maxHeartbeats 2000000 in
theorem w1_a (B C : Nat) (l : List UInt8) (p Bf g3 g4 : Nat) (e : FE) (o : Nat) (a : Option Addr) (n c : Nat) (lb : Lab) (w : World) (h : IsW B C l w) (hB : B ≤ w.heap.size) (hl : l.length ≤ 5000000) (hp : Hid (Finds p Bf o)) (hF : FcAt w Bf e) (b3 : Blk1 w g3 (.func (.func p) #[] #[])) (b4 : Blk1 w g4 (.func (.func 40) #[] #[])) (v0 : (elF e).toArray[o]? = some (.int .i64 lb.u)) (v1 : (elF e).toArray[o + 1]? = some (.slice a n c)) (v2 : (elF e).toArray[o + 2]? = some (.int .i64 lb.ap)) (v3 : (elF e).toArray[o + 3]? = some (.int .i64 lb.d)) (hI : ∀ l' W', PutW B C l' w W' → IsInts .i64 W' a n c lb.af) (hok : okInt lb.u = true ∧ (((lb.af.length : Int) ≤ 64 ∧ ∀ x ∈ lb.af, okInt x = true) ∧ (okInt lb.ap = true ∧ okInt lb.d = true))) :
    Calls Tryz.prog 69 #[cvW C, pt Bf, pt g4, pt g3] w fun r w' => r = .returned (.tuple #[]) ∧ PutW B C (l ++ encA lb) w w' := by
  have P0 := Lib.hid (PutW.refl h)
  have hpd := Lib.hid (P0.out.below hB (below_drew w))
  have hBd : B ≤ w.drew.heap.size := Nat.le_trans hB hpd.out.2.1.size
  have KC := Lib.hid (wlabel B C l Bf o (elF e).toArray 28 (0, 0) a n c lb w.drew hpd.out.1 hBd (by omega) hF (by decide) (by decide) v0 v1 v2 v3 (fun l2 W2 h2 => hI l2 W2 (hpd.out.trans h2)) hok)
  have HS := Lib.hid (fun l' w' (hp : PutW B C l' w w') => And.intro (b4.putW h hp).cell (b3.putW h hp).cell)
  have h3 := b3.cell
  have h4 := b4.cell
  have hcf := hp.out.enter
  clear h hF b3 b4
  unfold cvW at *
  go_enter Tryz.func69, Tryz.ntmps69
  go_wp2_with fail
  refine wp_region_held_drew (S := fun w' => w'.cell? ⟨g4, 0, none⟩ = some (.func (.func 40) #[] #[]) ∧ w'.cell? ⟨g3, 0, none⟩ = some (.func (.func p) #[] #[])) (by kernel_rfl) ?_ (fun h0 => ?_)
  · exact ⟨h4, h3⟩
  refine wpAnyH_take (i := 0) (v := ?_) rfl (by kernel_rfl) (by kernel_rfl) (by kernel_rfl) (fun _ _ _ h => h) (Or.inl ⟨by rfl, ?_⟩) h0 ?_
  rotate_left
  · (intro w hSw; (try dsimp only at hSw); go_simp); all_goals (with_reducible rfl)
  try simp only [List.getElem_toArray, List.getElem_cons_succ, List.getElem_cons_zero, Act.put, List.setIfInBounds_toArray, List.set_cons_zero, List.set_cons_succ]
  refine wpAnyH_take (i := 1) (v := ?_) rfl (by kernel_rfl) (by kernel_rfl) (by kernel_rfl) (fun _ _ _ h => h) (Or.inl ⟨by rfl, ?_⟩) h0 ?_
  rotate_left
  · (intro w hSw; (try dsimp only at hSw); go_simp); all_goals (with_reducible rfl)
  try simp only [List.getElem_toArray, List.getElem_cons_succ, List.getElem_cons_zero, Act.put, List.setIfInBounds_toArray, List.set_cons_zero, List.set_cons_succ]
  refine wpAnyH_take (i := 2) (v := ?_) rfl (by kernel_rfl) (by kernel_rfl) (by kernel_rfl) (fun _ _ _ h => h) (Or.inl ⟨by rfl, ?_⟩) h0 ?_
  rotate_left
  · (intro w hSw; (try dsimp only at hSw); go_simp); all_goals (with_reducible rfl)
  try simp only [List.getElem_toArray, List.getElem_cons_succ, List.getElem_cons_zero, Act.put, List.setIfInBounds_toArray, List.set_cons_zero, List.set_cons_succ]
  refine wpAnyH_take (i := 3) (v := ?_) rfl (by kernel_rfl) (by kernel_rfl) (by kernel_rfl) (fun _ _ _ h => h) (Or.inl ⟨by rfl, ?_⟩) h0 ?_
  rotate_left
  · (intro w hSw; (try dsimp only at hSw); go_simp); all_goals (with_reducible rfl)
  try simp only [List.getElem_toArray, List.getElem_cons_succ, List.getElem_cons_zero, Act.put, List.setIfInBounds_toArray, List.set_cons_zero, List.set_cons_succ]
  refine wpAnyH_ready (rs := [4]) (by kernel_rfl) (by simp) ?_
  refine AllReadyH.cons rfl (fun K hK => ?_) AllReadyH.nil
  go_simp
  refine (hp.out.call _).mono ?_
  rintro e w1 ⟨rfl, rfl⟩
  go_wp2_with fail
  have bS := h0
  refine hK.out _ _ ?_ (fun h1 => ?_)
  · exact bS
  clear hK K h0 bS
  try simp only [List.getElem_toArray, List.getElem_cons_succ, List.getElem_cons_zero, Act.put, List.setIfInBounds_toArray, List.set_cons_zero, List.set_cons_succ]
  refine wpAnyH_ready (rs := [5]) (by kernel_rfl) (by simp) ?_
  refine AllReadyH.cons rfl (fun K hK => ?_) AllReadyH.nil
  go_simp
  refine KC.out.mono ?_
  rintro e w2 ⟨rfl, hq⟩
  have Q2 := Lib.hid (hpd.out.trans hq)
  clear hq
  go_wp2_with fail
  have bS := HS.out _ _ Q2.out
  refine hK.out _ _ ?_ (fun h2 => ?_)
  · exact bS
  clear hK K h1 bS
  try simp only [List.getElem_toArray, List.getElem_cons_succ, List.getElem_cons_zero, Act.put, List.setIfInBounds_toArray, List.set_cons_zero, List.set_cons_succ]
  refine wpAnyH_done (by kernel_rfl) ?_ _
  clear h2
  go_wp2
  go_end0
  exact ⟨rfl, Q2.out⟩
/-- A field, written. -/
theorem wfield (x : Fld) (B C : Nat) (l : List UInt8) (Bf g3 g4 : Nat) (e : FE) (w : World) (h : IsW B C l w) (hB : B ≤ w.heap.size) (hl : l.length ≤ 5000000) (hF : FcAt w Bf e) (b3 : Blk1 w g3 (.func (.func (plN x)) #[] #[])) (b4 : Blk1 w g4 (.func x.cls.code #[] #[])) (hL : ∀ l' W', PutW B C l' w W' → FeOk W' e) (hok : okF x e.f) :
    Calls Tryz.prog x.cls.f1 #[cvW C, pt Bf, pt g4, pt g3] w fun r w' => r = .returned (.tuple #[]) ∧ PutW B C (l ++ encF x e.f) w w' := by
  have hd : IsBl w.drew e.ba e.bn e.bc e.f.bl := (hL l w.drew ((PutW.refl h).below hB (below_drew w))).bl
  cases x
  · exact w1_i B C l _ Bf g3 g4 e _ e.f.n w h hB hl (Lib.hid (finds .n Bf)) hF b3 b4 (hF.cell _) hok
  · exact w1_i B C l _ Bf g3 g4 e _ e.f.tm w h hB hl (Lib.hid (finds .tm Bf)) hF b3 b4 (hF.cell _) hok
  · exact w1_i B C l _ Bf g3 g4 e _ e.f.kd w h hB hl (Lib.hid (finds .kd Bf)) hF b3 b4 (hF.cell _) hok
  · exact w1_i B C l _ Bf g3 g4 e _ e.f.st w h hB hl (Lib.hid (finds .st Bf)) hF b3 b4 (hF.cell _) hok
  · exact w1_s B C l _ Bf g3 g4 e _ e.f.lg w h hB hl (Lib.hid (finds .lg Bf)) hF b3 b4 (hF.cell _) hok
  · exact w1_i B C l _ Bf g3 g4 e _ e.f.rv w h hB hl (Lib.hid (finds .rv Bf)) hF b3 b4 (hF.cell _) hok
  · exact w1_i B C l _ Bf g3 g4 e _ e.f.bs w h hB hl (Lib.hid (finds .bs Bf)) hF b3 b4 (hF.cell _) hok
  · exact w1_s B C l _ Bf g3 g4 e _ e.f.ti w h hB hl (Lib.hid (finds .ti Bf)) hF b3 b4 (hF.cell _) hok
  · exact w1_s B C l _ Bf g3 g4 e _ e.f.au w h hB hl (Lib.hid (finds .au Bf)) hF b3 b4 (hF.cell _) hok
  · exact w1_t B C l _ Bf g3 g4 e _ e.ta e.tn e.tc e.f.tp w h hB hl (Lib.hid (finds .tp Bf)) hF b3 b4 rfl (fun l' W' h' => (hL l' W' h').tp) hok.1 hok.2
  · exact w1_b B C l _ Bf g3 g4 e _ e.ba e.bn e.bc e.f.bl w h hB hl (Lib.hid (finds .bl Bf)) hF b3 b4 (hF.cell _) hd hok
  · exact w1_a B C l _ Bf g3 g4 e _ e.la e.ln e.lc e.f.lb w h hB hl (Lib.hid (finds .lb Bf)) hF b3 b4 rfl rfl rfl rfl (fun l' W' h' => (hL l' W' h').lb.1) hok
  · exact w1_i B C l _ Bf g3 g4 e _ e.f.ed w h hB hl (Lib.hid (finds .ed Bf)) hF b3 b4 (hF.cell _) hok
  · exact w1_i B C l _ Bf g3 g4 e _ e.f.bk w h hB hl (Lib.hid (finds .bk Bf)) hF b3 b4 (hF.cell _) hok
  · exact w1_i B C l _ Bf g3 g4 e _ e.f.se w h hB hl (Lib.hid (finds .se Bf)) hF b3 b4 (hF.cell _) hok
  · exact w1_s B C l _ Bf g3 g4 e _ e.f.tx w h hB hl (Lib.hid (finds .tx Bf)) hF b3 b4 (hF.cell _) hok
  · exact w1_s B C l _ Bf g3 g4 e _ e.f.tx w h hB hl (Lib.hid (finds .sx Bf)) hF b3 b4 (hF.cell _) hok
  · exact w1_s B C l _ Bf g3 g4 e _ e.f.nm w h hB hl (Lib.hid (finds .nm Bf)) hF b3 b4 (hF.cell _) hok
  · exact w1_i B C l _ Bf g3 g4 e _ e.f.pt w h hB hl (Lib.hid (finds .pt Bf)) hF b3 b4 (hF.cell _) hok
  · exact w1_i B C l _ Bf g3 g4 e _ e.f.cl w h hB hl (Lib.hid (finds .cl Bf)) hF b3 b4 (hF.cell _) hok
  · exact w1_i B C l _ Bf g3 g4 e _ e.f.un w h hB hl (Lib.hid (finds .un Bf)) hF b3 b4 (hF.cell _) hok
end Go.Proofs.YtlhcckjfgpcohaaGreatDoor
namespace Go.Proofs.YtlhcckjfgpcohaaGreatDoor
open Go.RowKit Go.MapKept
set_option maxRecDepth 100000
set_option linter.unusedSimpArgs false
set_option linter.unusedVariables false
theorem encF_len {x : Fld} {f : Fct} (h : okF x f) : (encF x f).length ≤ 263000 := by
  have hs : ∀ z : List UInt8, z.length ≤ 65536 → (encS z).length ≤ 263000 := fun z hz => Nat.le_trans (encS_len hz) (by omega)
  have hi : ∀ n : Int, (encInt n).length ≤ 263000 := fun n => Nat.le_trans (encInt_len n) (by omega)
  cases x <;> first
    | exact hi _
    | exact hs _ h
    | (have h1 := flatS_len f.tp h.2
       have h2 := h.1
       have h3 := encInt_len (f.tp.length : Int)
       show (encM encS f.tp).length ≤ _
       unfold encM
       rw [List.length_append]
       omega)
    | exact hs _ (encL_le h)
    | (have h1 := flat_len f.lb.af
       have h2 := h.2.1.1
       have h3 := encInt_len (f.lb.af.length : Int)
       have h4 := encInt_len f.lb.u
       have h5 := encInt_len f.lb.ap
       have h6 := encInt_len f.lb.d
       show (encA f.lb).length ≤ _
       unfold encA encN
       rw [List.length_append, List.length_append, List.length_append, List.length_append]
       omega)
theorem encG_len {l : List Fld} {f : Fct} (h : ∀ x ∈ l, okF x f) : (encG l f).length ≤ 263000 * l.length := by
  induction l with
  | nil => simp [encG]
  | cons x l ih =>
    have h1 := encF_len (h x List.mem_cons_self)
    have h2 := ih (fun y hy => h y (List.mem_cons_of_mem _ hy))
    unfold encG at h2 ⊢
    rw [List.flatMap_cons, List.length_append, List.length_cons]
    omega
theorem encG_succ {l : List Fld} {k : Nat} {x : Fld} (f : Fct) (h : l[k]? = some x) : encG (l.take (k + 1)) f = encG (l.take k) f ++ encF x f := by
  rw [take_snocF h, encG_app]
  simp [encG]
set_option maxHeartbeats 4000000 in
theorem wfields (B C : Nat) (l : List UInt8) (a : Option Addr) (n c : Nat) (fl : List Fld) (Bf : Nat) (e : FE) (w : World) (h : IsW B C l w) (hB : B ≤ w.heap.size) (hl : l.length ≤ 1000) (hF : FcAt w Bf e) (hfl : IsFls w a n c fl) (hn : n ≤ 12) (hL : ∀ l' W', PutW B C l' w W' → FeOk W' e) (hok : ∀ x ∈ fl, okF x e.f) :
    Calls Tryz.prog 32 #[cvW C, pt Bf, .slice a n c] w fun r w' => r = .returned (.tuple #[]) ∧ PutW B C (l ++ encG fl e.f) w w' := by
  have P0 := Lib.hid (PutW.refl h)
  have HLN := Lib.hid hfl.len
  have hcm : c ≤ maxLen := by obtain ⟨vs, h1, h2⟩ := hfl; exact h1.2.2.1
  have hnc : n ≤ c := by obtain ⟨vs, h1, h2⟩ := hfl; exact h1.2.1
  unfold maxLen at hcm
  have HF := Lib.hid (fun l' w' (hp : PutW B C l' w w') => And.intro (hF.putW h hp) (hfl.putW h hp))
  have HL := Lib.hid hL
  have HOK := Lib.hid hok
  have HLE := Lib.hid hl
  clear h hF hfl hL hok hl
  unfold cvW
  go_enter Tryz.func32, Tryz.ntmps32
  go_wp2_with fail
  go_loopw [10, 7] (fun i _ wr => ∃ k : Nat, k ≤ n ∧ i = .int .i64 k ∧ Hid (PutW B C (l ++ encG (fl.take k) e.f) w wr)) (fun i _ _ => n - (intOf i).toNat)
  case atStart => exact ⟨0, Nat.zero_le _, rfl, Lib.hid (by simpa [encG] using P0.out)⟩
  case round =>
    clear P0
    obtain ⟨k, hk, rfl, hp⟩ := hrel
    by_cases hlt : k < n
    · obtain ⟨x, hx⟩ : ∃ x, fl[k]? = some x := ⟨fl[k]'(by rw [← HLN.out]; exact hlt), List.getElem?_eq_getElem _⟩
      obtain ⟨b, off, g3, g4, g5, rfl, b3, b4, b5, c0, c1, c2⟩ := fls_at (HF.out _ _ hp.out).2 hx
      have HX := Lib.hid hx
      have HB3 := Lib.hid b3
      have HB4 := Lib.hid b4
      clear hx b3 b4 b5
      have hltn : (k : Int) < n := by omega
      obtain ⟨fq, cq, hq⟩ : ∃ fq cq, (if isBs x = true then Value.func (.func 77) #[] #[] else .func (.func x.cls.f2) #[] #[pt g5, pt g3]) = .func fq #[] cq := by
        split
        · exact ⟨_, _, rfl⟩
        · exact ⟨_, _, rfl⟩
      rw [hq] at c1
      clear hq
      have E1 := f1_enter x.cls
      have K1 := Lib.hid (fun W l' h hB hl hF b3 b4 hL => wfield x B C l' Bf g3 g4 e W h hB hl hF b3 b4 hL (HOK.out x (List.mem_of_getElem? HX.out)))
      have HG : Hid ((l ++ encG (fl.take k) e.f).length ≤ 5000000) := Lib.hid (by
        have h1 := encG_len (l := fl.take k) (f := e.f) (fun y hy => HOK.out y (List.mem_of_mem_take hy))
        have h2 := HLE.out
        rw [List.length_take] at h1
        rw [List.length_append]
        omega)
      have HS := Lib.hid (encG_succ e.f HX.out)
      generalize x.cls.f1 = f1 at *
      generalize x.cls.f3 = f3 at *
      go_wp2_with fail
      have hpa := Lib.hid (hp.out.alloc hB (.cells #[.func (.func f1) #[] #[pt g4, pt g3], .func fq #[] cq, .func (.func f3) #[] #[pt g3]] 67))
      have hba := below_alloc wr (.cells #[.func (.func f1) #[] #[pt g4, pt g3], .func fq #[] cq, .func (.func f3) #[] #[pt g3]] 67)
      have hca : (wr.alloc (.cells #[.func (.func f1) #[] #[pt g4, pt g3], .func fq #[] cq, .func (.func f3) #[] #[pt g3]] 67)).cell? ⟨wr.heap.size, 0, none⟩ = some (.func (.func f1) #[] #[pt g4, pt g3]) := by rw [Joins.cell_of_block (heap_alloc_new wr _)]; rfl
      refine (K1.out _ _ hpa.out.1 (Nat.le_trans hB hpa.out.2.1.size) HG.out (HF.out _ _ hpa.out).1 (HB3.out.over hba) (HB4.out.over hba) (fun l' W' h' => HL.out _ _ (hpa.out.trans h'))).mono ?_
      rintro r w2 ⟨rfl, hq⟩
      have hp3 : Hid (PutW B C (l ++ encG (fl.take (k + 1)) e.f) w w2) := Lib.hid (by
        rw [HS.out, ← List.append_assoc]
        exact hpa.out.trans hq)
      clear hq hp hpa hba hca c0 c1 c2 K1 HG
      go_wp2_with fail
      go_roundw
      case rel => exact ⟨k + 1, by omega, by go_num, hp3⟩
      case measure => simp [intOf]; omega
    · obtain rfl : n = k := by omega
      have hp3 : Hid (PutW B C (l ++ encG fl e.f) w wr) := Lib.hid (by
        have h := hp.out
        rw [HLN.out, List.take_length] at h
        exact h)
      clear hp
      go_wp2
      go_end0
      exact ⟨rfl, hp3.out⟩
set_option maxHeartbeats 2000000 in
/-- What a writer that holds something gives. -/
theorem wstring (B C : Nat) (l : List UInt8) (w : World) (h : IsW B C l w) (h0 : l ≠ []) :
    Calls Tryz.prog 22 #[.pointer (some ⟨C, 0, none⟩)] w fun e w' => e = .returned (.string ⟨l.toArray⟩) ∧ Below B w w' := by
  obtain ⟨p, hB, v, hbk, hown, hne⟩ : ∃ p, Lib.BuilderAtF 56 5 B C p (Lib.byteCells l) w := by
    rcases h with h | h
    · exact ⟨_, h⟩
    · exact ⟨_, h⟩
  have hl0 : l.length ≠ 0 := by simpa using h0
  rw [Lib.byteCells_length] at hown
  obtain ⟨g, cap, cur, fz, rfl, hbg, hg, -, hnc, hcm, hcs, -⟩ := hown.2.resolve_left (fun q => hl0 q.2)
  have c1 : w.cell? ⟨C, 1, none⟩ = some (.slice (some ⟨g, 0, none⟩) l.length cap) := by rw [Joins.cell_of_block hbk]; rfl
  have hSD : (Builtin.unsafeSliceData_ #[52] 81 #[.slice (some ⟨g, 0, none⟩) l.length cap]).run Tryz.prog w.drew = .ok (.pointer (some ⟨g, 0, none⟩)) w.drew :=
    Lib.run_unsafeSliceData_row _ _ _ _ _ _ (by omega)
  have hUS : (Builtin.unsafeString_ #[81, 3] 9 #[.pointer (some ⟨g, 0, none⟩), .int .i64 l.length]).run Tryz.prog w.drew = .ok (.string ⟨l.toArray⟩) (w.drew.freeze ⟨g, 0, none⟩ l.length) := by
    refine Lib.run_unsafeString_row w.drew 81 3 9 5 Tryz.underlying81 (by kernel_rfl) g cur.size (by have hg' : w.drew.heap[g]? = some (.cells cur 5 fz) := hg; simp [World.shape?, hg']) l h0 (by omega) (by unfold maxLen at hcm; omega) ?_
    intro j x hx
    exact hown.cells (g := g) rfl j (.int .u8 x.toNat) (by simp [Lib.byteCells, hx])
  have HB := Lib.hid (Lib.below_freeze (Below.drew (Below.refl B w)) (p := ⟨g, 0, none⟩) hbg l.length)
  have mixed : Tryz.prog.follows Departure.mixedOrders = true := by kernel_rfl
  clear h hown hbk hne hcs
  go_enter Tryz.func22, Tryz.ntmps22
  go_wp2
  go_region_o
  all_goals (go_wp2; go_ret; exact ⟨rfl, HB.out⟩)
end Go.Proofs.YtlhcckjfgpcohaaGreatDoor
namespace Go.Proofs.YtlhcckjfgpcohaaGreatDoor
open Go.RowKit Go.MapKept
set_option maxRecDepth 100000
set_option linter.unusedSimpArgs false
set_option linter.unusedVariables false
set_option maxHeartbeats 4000000 in
theorem wfact (B C : Nat) (Bf : Nat) (e : FE) (fl : List Fld) (w : World) (h : IsW B C [] w) (hB : B ≤ w.heap.size) (hF : FcAt w Bf e) (hL : ∀ l' W', PutW B C l' w W' → FeOk W' e) (ho : ownF e.f.kd = some fl) (hok : ∀ x ∈ hdF ++ fl, okF x e.f) :
    Calls Tryz.prog 21 #[cvW C, pt Bf] w fun r w' => r = .returned (.tuple #[]) ∧ PutW B C (encV e.f) w w' := by
  have P0 := Lib.hid (PutW.refl h)
  have HF := Lib.hid (fun l' w' (hp : PutW B C l' w w') => hF.putW h hp)
  have HL := Lib.hid hL
  have KO := Lib.hid (fun W => fieldsOf5 e.f.kd W)
  rw [ho] at KO
  have HV := Lib.hid (encV_some ho)
  have HLN : Hid (fl.length ≤ 9) := Lib.hid (by
    rcases own_cases ho with ⟨_, rfl⟩ | ⟨_, rfl⟩ | ⟨_, rfl⟩ | ⟨_, rfl⟩ | ⟨_, rfl⟩ | ⟨_, rfl⟩ | ⟨_, rfl⟩ | ⟨_, rfl⟩ | ⟨_, rfl⟩ | ⟨_, rfl⟩ <;> simp)
  have HO1 : Hid (∀ x ∈ hdF, okF x e.f) := Lib.hid (fun x hx => hok x (List.mem_append_left _ hx))
  have HO2 : Hid (∀ x ∈ fl, okF x e.f) := Lib.hid (fun x hx => hok x (List.mem_append_right _ hx))
  clear h hF hL ho hok
  unfold cvW
  go_enter Tryz.func21, Tryz.ntmps21
  go_wp2_with fail
  refine (head5 _).mono ?_
  rintro r w1 ⟨a3, rfl, h3, b3⟩
  have P1 := Lib.hid (P0.out.below hB b3)
  have H3 := Lib.hid h3
  clear h3 b3
  go_wp2_with fail
  refine (wfields B C [] a3 3 3 hdF Bf e w1 P1.out.1 (Nat.le_trans hB P1.out.2.1.size) (by simp) (HF.out _ _ P1.out) H3.out (by omega) (fun l' W' h' => HL.out _ _ (P1.out.trans h')) HO1.out).mono ?_
  rintro r w2 ⟨rfl, hq⟩
  have P2 := Lib.hid (P1.out.trans hq)
  clear hq P1 H3
  have q2 : w2.cell? ⟨Bf, 2, none⟩ = some (.int .i64 e.f.kd) := (HF.out _ _ P2.out).cell 2
  go_wp2_with fail
  refine (KO.out _).mono ?_
  rintro r w3 hr
  obtain ⟨a, n, c, rfl, hfl, bb⟩ : ∃ a n c, r = .returned (.tuple #[.slice a n c, .bool true]) ∧ IsFls w3 a n c fl ∧ Below w2.heap.size w2 w3 := hr
  have P3 := Lib.hid (P2.out.below hB bb)
  have HFL := Lib.hid hfl
  have HN : Hid (n ≤ 12) := Lib.hid (by have h1 := hfl.len; have h2 := HLN.out; omega)
  have HE1 : Hid (([] ++ encG hdF e.f).length ≤ 1000) := Lib.hid (by
    have h1 := encInt_len e.f.n
    have h2 := encInt_len e.f.tm
    have h3 := encInt_len e.f.kd
    simp [encG, hdF, encF]
    omega)
  clear bb hfl q2 P2 KO
  go_wp2_with fail
  refine (wfields B C _ a n c fl Bf e w3 P3.out.1 (Nat.le_trans hB P3.out.2.1.size) HE1.out (HF.out _ _ P3.out) HFL.out HN.out (fun l' W' h' => HL.out _ _ (P3.out.trans h')) HO2.out).mono ?_
  rintro r w4 ⟨rfl, hq⟩
  have P4 : Hid (PutW B C (encV e.f) w w4) := Lib.hid (by
    have h := P3.out.trans hq
    rw [HV.out]
    simpa using h)
  clear hq P3 HFL
  go_wp2
  go_end0
  exact ⟨rfl, P4.out⟩
set_option maxHeartbeats 4000000 in
theorem encode5 (e : FE) (w : World) (h : FeOk w e) : Calls Tryz.prog 12 #[aggF e] w fun r w' => r = .returned (.tuple #[.string ⟨(encE e.f).1.toArray⟩, .int .i64 (encE e.f).2]) ∧ Below w.heap.size w w' := by
  have HE := Lib.hid h
  have F0 := Lib.hid (show FcAt (w.alloc (.cells #[.int .i64 e.f.n, .int .i64 e.f.tm, .int .i64 e.f.kd, .int .i64 e.f.st, .string ⟨e.f.lg.toArray⟩, .int .i64 e.f.rv, .int .i64 e.f.bs, .string ⟨e.f.ti.toArray⟩, .string ⟨e.f.au.toArray⟩, .slice e.ta e.tn e.tc, .slice e.ba e.bn e.bc, .int .i64 e.f.lb.u, .slice e.la e.ln e.lc, .int .i64 e.f.lb.ap, .int .i64 e.f.lb.d, .int .i64 e.f.ed, .int .i64 e.f.bk, .int .i64 e.f.se, .string ⟨e.f.tx.toArray⟩, .string ⟨e.f.nm.toArray⟩, .int .i64 e.f.pt, .int .i64 e.f.cl, .int .i64 e.f.un] 28)) w.heap.size e from heap_alloc_new w _)
  have B0 := Lib.hid (below_alloc w (.cells #[.int .i64 e.f.n, .int .i64 e.f.tm, .int .i64 e.f.kd, .int .i64 e.f.st, .string ⟨e.f.lg.toArray⟩, .int .i64 e.f.rv, .int .i64 e.f.bs, .string ⟨e.f.ti.toArray⟩, .string ⟨e.f.au.toArray⟩, .slice e.ta e.tn e.tc, .slice e.ba e.bn e.bc, .int .i64 e.f.lb.u, .slice e.la e.ln e.lc, .int .i64 e.f.lb.ap, .int .i64 e.f.lb.d, .int .i64 e.f.ed, .int .i64 e.f.bk, .int .i64 e.f.se, .string ⟨e.f.tx.toArray⟩, .string ⟨e.f.nm.toArray⟩, .int .i64 e.f.pt, .int .i64 e.f.cl, .int .i64 e.f.un] 28))
  show Calls _ _ #[.agg #[.int .i64 e.f.n, .int .i64 e.f.tm, .int .i64 e.f.kd, .int .i64 e.f.st, .string ⟨e.f.lg.toArray⟩, .int .i64 e.f.rv, .int .i64 e.f.bs, .string ⟨e.f.ti.toArray⟩, .string ⟨e.f.au.toArray⟩, .slice e.ta e.tn e.tc, .slice e.ba e.bn e.bc, .int .i64 e.f.lb.u, .slice e.la e.ln e.lc, .int .i64 e.f.lb.ap, .int .i64 e.f.lb.d, .int .i64 e.f.ed, .int .i64 e.f.bk, .int .i64 e.f.se, .string ⟨e.f.tx.toArray⟩, .string ⟨e.f.nm.toArray⟩, .int .i64 e.f.pt, .int .i64 e.f.cl, .int .i64 e.f.un]] w _
  cases hv : vF e.f
  · have KV := Lib.hid (valid5 e (w.alloc (.cells #[.int .i64 e.f.n, .int .i64 e.f.tm, .int .i64 e.f.kd, .int .i64 e.f.st, .string ⟨e.f.lg.toArray⟩, .int .i64 e.f.rv, .int .i64 e.f.bs, .string ⟨e.f.ti.toArray⟩, .string ⟨e.f.au.toArray⟩, .slice e.ta e.tn e.tc, .slice e.ba e.bn e.bc, .int .i64 e.f.lb.u, .slice e.la e.ln e.lc, .int .i64 e.f.lb.ap, .int .i64 e.f.lb.d, .int .i64 e.f.ed, .int .i64 e.f.bk, .int .i64 e.f.se, .string ⟨e.f.tx.toArray⟩, .string ⟨e.f.nm.toArray⟩, .int .i64 e.f.pt, .int .i64 e.f.cl, .int .i64 e.f.un] 28)) (h.over (below_alloc w _)))
    rw [hv] at KV
    have HR := Lib.hid (show encE e.f = ([], 50) by unfold encE; rw [hv]; rfl)
    clear hv h
    go_enter Tryz.func12, Tryz.ntmps12
    go_wp2_with (refine wpList_load28 _ w.heap.size e F0.out rfl rfl rfl ?_)
    refine (show Calls _ _ #[.agg #[.int .i64 e.f.n, .int .i64 e.f.tm, .int .i64 e.f.kd, .int .i64 e.f.st, .string ⟨e.f.lg.toArray⟩, .int .i64 e.f.rv, .int .i64 e.f.bs, .string ⟨e.f.ti.toArray⟩, .string ⟨e.f.au.toArray⟩, .slice e.ta e.tn e.tc, .slice e.ba e.bn e.bc, .int .i64 e.f.lb.u, .slice e.la e.ln e.lc, .int .i64 e.f.lb.ap, .int .i64 e.f.lb.d, .int .i64 e.f.ed, .int .i64 e.f.bk, .int .i64 e.f.se, .string ⟨e.f.tx.toArray⟩, .string ⟨e.f.nm.toArray⟩, .int .i64 e.f.pt, .int .i64 e.f.cl, .int .i64 e.f.un]] _ _ from KV.out).mono ?_
    rintro r w1 ⟨rfl, b1⟩
    have BW := Lib.hid (bel2 B0.out b1)
    clear b1
    go_wp2
    go_ret2
    rw [HR.out]
    exact ⟨rfl, BW.out⟩
  · have KV := Lib.hid (valid5 e (w.alloc (.cells #[.int .i64 e.f.n, .int .i64 e.f.tm, .int .i64 e.f.kd, .int .i64 e.f.st, .string ⟨e.f.lg.toArray⟩, .int .i64 e.f.rv, .int .i64 e.f.bs, .string ⟨e.f.ti.toArray⟩, .string ⟨e.f.au.toArray⟩, .slice e.ta e.tn e.tc, .slice e.ba e.bn e.bc, .int .i64 e.f.lb.u, .slice e.la e.ln e.lc, .int .i64 e.f.lb.ap, .int .i64 e.f.lb.d, .int .i64 e.f.ed, .int .i64 e.f.bk, .int .i64 e.f.se, .string ⟨e.f.tx.toArray⟩, .string ⟨e.f.nm.toArray⟩, .int .i64 e.f.pt, .int .i64 e.f.cl, .int .i64 e.f.un] 28)) (h.over (below_alloc w _)))
    rw [hv] at KV
    obtain ⟨fl, ho, hval, -⟩ := vF_some hv
    have HOK := Lib.hid (all_ok ho hval)
    have HO := Lib.hid ho
    have HR := Lib.hid (show encE e.f = (encV e.f, 0) by unfold encE; rw [hv]; rfl)
    have HNE : Hid (encV e.f ≠ []) := Lib.hid (by
      rw [encV_some ho]
      have h1 : 0 < (encInt e.f.n).length := enc_pos _ _
      intro q
      have h2 := congrArg List.length q
      simp only [encG, hdF, List.flatMap_cons, List.length_append, encF, List.length_nil] at h2
      omega)
    clear hv h ho hval
    go_enter Tryz.func12, Tryz.ntmps12
    go_wp2_with (refine wpList_load28 _ w.heap.size e F0.out rfl rfl rfl ?_)
    refine (show Calls _ _ #[.agg #[.int .i64 e.f.n, .int .i64 e.f.tm, .int .i64 e.f.kd, .int .i64 e.f.st, .string ⟨e.f.lg.toArray⟩, .int .i64 e.f.rv, .int .i64 e.f.bs, .string ⟨e.f.ti.toArray⟩, .string ⟨e.f.au.toArray⟩, .slice e.ta e.tn e.tc, .slice e.ba e.bn e.bc, .int .i64 e.f.lb.u, .slice e.la e.ln e.lc, .int .i64 e.f.lb.ap, .int .i64 e.f.lb.d, .int .i64 e.f.ed, .int .i64 e.f.bk, .int .i64 e.f.se, .string ⟨e.f.tx.toArray⟩, .string ⟨e.f.nm.toArray⟩, .int .i64 e.f.pt, .int .i64 e.f.cl, .int .i64 e.f.un]] _ _ from KV.out).mono ?_
    rintro r w1 ⟨rfl, b1⟩
    have BW := Lib.hid (bel2 B0.out b1)
    replace F0 := Lib.hid (F0.out.over b1)
    have P0 : Hid (PutW w1.heap.size w1.heap.size [] w1 (w1.alloc (.cells #[.pointer none, .slice none 0 0] 56))) := Lib.hid ⟨Lib.IsBuilderF.of (Lib.fresh_isBuilder 56 5 w1), below_alloc _ _, othersKept_below _ _ (below_alloc _ _)⟩
    have KF := Lib.hid (wfact w1.heap.size w1.heap.size w.heap.size e fl (w1.alloc (.cells #[.pointer none, .slice none 0 0] 56)) P0.out.1 (below_alloc w1 _).size (F0.out.over (below_alloc w1 _)) (fun l' W' h' => HE.out.over (bel2 BW.out (P0.out.trans h').2.1)) HO.out HOK.out)
    have HB1 := Lib.hid (below_alloc w1 (.cells #[.pointer none, .slice none 0 0] 56)).size
    clear b1 KV
    go_wp2_with fail
    refine KF.out.mono ?_
    rintro r w2 ⟨rfl, hq⟩
    have P2 := Lib.hid (P0.out.trans hq)
    clear hq KF
    go_wp2_with fail
    refine (wstring w1.heap.size w1.heap.size (encV e.f) w2 P2.out.1 HNE.out).mono ?_
    rintro r w3 ⟨rfl, b3⟩
    have BZ := Lib.hid (bel2 BW.out (P2.out.2.1.trans b3))
    clear b3
    go_wp2
    go_ret2
    rw [HR.out]
    exact ⟨rfl, BZ.out⟩
end Go.Proofs.YtlhcckjfgpcohaaGreatDoor
