import Derived.Test.YtdhioalfgogcdaaGreatDoorBlkP1
import Derived.Laws.EntriesVeiled
namespace Go.Proofs.YtdhioalfgogcdaaGreatDoor
open Go.RowKit Go.MapKept
set_option maxRecDepth 100000
set_option linter.unusedSimpArgs false
set_option linter.unusedVariables false
/-- The line of a block's kind. -/
def lineP (k : Int) (t : List UInt8) : List UInt8 := if k = 1 then t else if k = 2 then joinP (sentP t) else if k = 3 then [34] ++ t ++ [34] else if k = 4 then [91] ++ t ++ [93] else [35] ++ t ++ []
def oneP (b : Blk) : List UInt8 := if inB b.kd 1 5 = true then lineP b.kd b.tx ++ [10] else []
def plainP (l : List Blk) : List UInt8 := l.flatMap oneP
theorem plainP_app (l m : List Blk) : plainP (l ++ m) = plainP l ++ plainP m := List.flatMap_append
theorem lineP_len (k : Int) (t : List UInt8) : (lineP k t).length ≤ 2 * t.length + 2 := by
  have := flow_len t
  unfold lineP
  split
  · omega
  · split
    · omega
    · split
      · simp; omega
      · split
        · simp; omega
        · simp; omega
theorem oneP_len (b : Blk) : (oneP b).length ≤ 2 * b.tx.length + 3 := by
  have := lineP_len b.kd b.tx
  unfold oneP
  split
  · simp; omega
  · simp
theorem plainP_len : ∀ (l : List Blk) (m : Nat), (∀ b ∈ l, b.tx.length ≤ m) → (plainP l).length ≤ (2 * m + 3) * l.length
  | [], m, _ => by simp [plainP]
  | b :: l, m, h => by
    have h1 := plainP_len l m (fun x hx => h x (List.mem_cons_of_mem _ hx))
    have h2 := oneP_len b
    have h3 := h b List.mem_cons_self
    unfold plainP at h1 ⊢
    rw [List.flatMap_cons, List.length_append, List.length_cons, Nat.mul_add]
    omega
theorem plain_succ {es : List BE} {k : Nat} {e : BE} (h : es[k]? = some e) : plainP (blks (es.take (k + 1))) = plainP (blks (es.take k)) ++ oneP e.1 := by
  obtain ⟨hk, rfl⟩ := List.getElem?_eq_some_iff.1 h
  rw [List.take_succ_eq_append_getElem hk]
  unfold blks
  rw [List.map_append, plainP_app]
  simp only [plainP, List.map_cons, List.map_nil, List.flatMap_cons, List.flatMap_nil, List.append_nil]
theorem writeByteP (B b : Nat) (l : List UInt8) (w : World) (h : IsB B b l w) (hlen : l.length + 1 ≤ 140737488355328) (hBw : B ≤ w.heap.size) :
    Calls Tryz.prog 32 #[.pointer (some ⟨b, 0, none⟩), .int .u8 10] w fun e w' => e = .returned .nilIface ∧ Put B b (l ++ [10]) w w' := by
  refine (writeByte_any B b (Lib.byteCells l) 10 w h (by rw [Lib.byteCells_length]; exact hlen) hBw).mono ?_
  rintro e w' ⟨rfl, h1, h2, h3⟩
  refine ⟨rfl, ?_, h2, h3⟩
  have : Lib.byteCells (l ++ [10]) = Lib.byteCells l ++ [.int .u8 10] := byteCells_snoc l 10
  rw [IsB, this]
  exact h1
theorem Put.map {B b g : Nat} {l l' : List UInt8} {w w' : World} {es : Array MapEntry} {cl : Nat} (hI : IsB B b l w) (h : Put B b l' w w') (hg : w.heap[g]? = some (.map es cl)) : w'.heap[g]? = some (.map es cl) := by
  refine h.2.2 g _ hg ?_ (fun c fz e => by cases e)
  intro e
  cases e
  obtain ⟨cs', hb⟩ := isB_block hI
  rw [hb] at hg
  cases hg
/-- The table and its strings, in some world. -/
def Tbl (g : Nat) (W : World) : Prop := W.heap[g]? = some (kM g 5) ∧ W.heap[g + 1]? = some (oneS [34]) ∧ W.heap[g + 1 + 1]? = some (oneS [34]) ∧ W.heap[g + 1 + 1 + 1]? = some (oneS [91]) ∧ W.heap[g + 1 + 1 + 1 + 1]? = some (oneS [93]) ∧ W.heap[g + 1 + 1 + 1 + 1 + 1]? = some (oneS [35]) ∧ W.heap[g + 1 + 1 + 1 + 1 + 1 + 1]? = some (oneS [])
theorem Tbl.over {g : Nat} {W W' : World} (h : Tbl g W) (hb : Below W.heap.size W W') : Tbl g W' :=
  ⟨blockOver hb h.1, blockOver hb h.2.1, blockOver hb h.2.2.1, blockOver hb h.2.2.2.1, blockOver hb h.2.2.2.2.1, blockOver hb h.2.2.2.2.2.1, blockOver hb h.2.2.2.2.2.2⟩
theorem Tbl.put {B b g : Nat} {l l' : List UInt8} {W W' : World} (h : Tbl g W) (hI : IsB B b l W) (p : Put B b l' W W') : Tbl g W' :=
  ⟨p.map hI h.1, p.kept hI h.2.1 (by decide) (by decide), p.kept hI h.2.2.1 (by decide) (by decide), p.kept hI h.2.2.2.1 (by decide) (by decide), p.kept hI h.2.2.2.2.1 (by decide) (by decide), p.kept hI h.2.2.2.2.2.1 (by decide) (by decide), p.kept hI h.2.2.2.2.2.2 (by decide) (by decide)⟩
theorem oneS_cell {W : World} {g : Nat} {l : List UInt8} (h : W.heap[g]? = some (oneS l)) : W.cell? ⟨g, 0, none⟩ = some (.string ⟨l.toArray⟩) := by rw [Joins.cell_of_block h]; rfl
set_option maxHeartbeats 8000000 in
theorem plain_any (a : Option Addr) (n c : Nat) (es : List BE) (w : World) (h : IsBlks w a n c es) (hn : n ≤ 100) (ht : ∀ e ∈ es, e.1.tx.length ≤ 1000) :
    Calls Tryz.prog 12 #[.slice a n c] w fun x w' => x = .returned (.string ⟨(plainP (blks es)).toArray⟩) ∧ Below w.heap.size w w' := by
  have hcm := h.2.2.1
  have hnc := h.2.1
  have HL := Lib.hid h.1
  have H := Lib.hid h
  have HT := Lib.hid ht
  have B0 := below_alloc w (.cells #[.pointer none, .slice none 0 0] 55)
  have I0 : IsB w.heap.size w.heap.size [] (w.alloc (.cells #[.pointer none, .slice none 0 0] 55)) := Lib.IsBuilderF.of (Lib.fresh_isBuilder 55 5 w)
  have HI0 := Lib.hid I0
  have HB0 := Lib.hid B0
  unfold maxLen at hcm
  clear h ht B0 I0
  go_enter Tryz.func12, Tryz.ntmps12
  go_wp2_with fail
  refine (kinds_at _).mono ?_
  rintro x w1 ⟨g, rfl, m0, m1, m2, m3, m4, m5, m6, b1⟩
  have T1 := Lib.hid (show Tbl g w1 from ⟨m0, m1, m2, m3, m4, m5, m6⟩)
  have BW1 := Lib.hid (bel2 HB0.out b1)
  have I1 := Lib.hid (isB_below HI0.out b1)
  obtain ⟨B, hB⟩ : ∃ B, B = w.heap.size := ⟨_, rfl⟩
  have P1 : Hid (Put B B (plainP (blks (es.take 0))) w1 w1) := Lib.hid (by rw [hB]; exact Put.refl (by simpa [blks, plainP] using I1.out))
  have HBW : Hid (w.heap.size = B) := Lib.hid hB.symm
  have HB1 : Hid (B ≤ w1.heap.size) := Lib.hid (by rw [hB]; exact BW1.out.size)
  rw [← hB]
  rw [← hB] at I1
  clear m0 m1 m2 m3 m4 m5 m6 b1 HI0 HB0 hB
  go_wp2_with fail
  go_loopw [12, 6, 7, 8] (fun i _ _ _ wr => ∃ k : Nat, k ≤ n ∧ i = .int .i64 k ∧ Hid (Put B B (plainP (blks (es.take k))) w1 wr)) (fun i _ _ _ _ => n - (intOf i).toNat)
  case atStart => exact ⟨0, Nat.zero_le _, rfl, P1⟩
  case round =>
    obtain ⟨k, hk, rfl, hp⟩ := hrel
    have bw : Below w.heap.size w wr := BW1.out.trans (by rw [HBW.out]; exact hp.out.2.1)
    by_cases hlt : k < n
    · obtain ⟨b, off, e, rfl, he, hok, h9⟩ := (H.out.over bw).at_ hlt
      have htx := HT.out e (List.mem_of_getElem? he)
      have HE := Lib.hid (plain_succ he)
      have hll : (plainP (blks (es.take k))).length ≤ 300000 := by
        have := plainP_len (blks (es.take k)) 1000 (fun x hx => by
          obtain ⟨e', he', rfl⟩ := List.mem_map.1 hx
          exact HT.out e' (List.mem_of_mem_take he'))
        simp only [blks, List.length_map, List.length_take] at this ⊢
        have hm : (2 * 1000 + 3) * (min k es.length) ≤ (2 * 1000 + 3) * 100 := Nat.mul_le_mul_left _ (by omega)
        omega
      have HLL := Lib.hid hll
      obtain ⟨p0, p1, p2, p3, p4, p5, p6, p7, p8⟩ := h9
      have T2 := Lib.hid ((T1.out.put I1.out hp.out).over (below_alloc wr (.cells (elB e).toArray 33)))
      have hg2 : g < (wr.alloc (.cells (elB e).toArray 33)).heap.size := (Array.getElem?_eq_some_iff.1 T2.out.1).1
      have T3 : Hid (∀ o, Tbl g ((wr.alloc (.cells (elB e).toArray 33)).alloc o)) := Lib.hid (fun o => T2.out.over (below_alloc _ o))
      have KL : Hid (∀ W, Tbl g W → (Instr.lookup 69 (.map (some g)) (.int .i64 e.1.kd) true).run Tryz.prog W = .ok (.tuple #[kindV g e.1.kd, .bool (inB e.1.kd 1 5)]) W) := Lib.hid (fun W hT => look_any g e.1.kd W hT.1)
      have hltn : (k : Int) < n := by omega
      have hnb : wr.heap.size ≠ B := by have := Nat.le_trans HB1.out hp.out.2.1.size; have h5 := isB_block hp.out.1; obtain ⟨cs, h5⟩ := h5; have := (Array.getElem?_eq_some_iff.1 h5).1; omega
      clear he hok bw hg2 hll
      by_cases hk5 : e.1.kd = 1
      · skip
        have HKV := Lib.hid (show kindV g e.1.kd = .agg #[.func (.func 58) #[] #[], .func (.func 59) #[] #[], .func (.func 60) #[] #[]] by rw [hk5]; rfl)
        have HIN := Lib.hid (show inB e.1.kd 1 5 = true by rw [hk5]; rfl)
        have HON := Lib.hid (show oneP e.1 = lineP 1 e.1.tx ++ [10] by unfold oneP; rw [HIN.out, if_pos rfl, hk5])
        have lk := KL.out (wr.alloc (.cells (elB e).toArray 33)) T2.out
        rw [HKV.out, HIN.out] at lk
        simp only [elB] at lk
        have KN : Hid (∀ W, Tbl g W → Calls Tryz.prog 60 #[.string ⟨e.1.tx.toArray⟩] W fun x w' => x = .returned (.string ⟨(lineP 1 e.1.tx).toArray⟩) ∧ Below W.heap.size W w') := Lib.hid (fun W hT => by
          refine (unch_any ⟨e.1.tx.toArray⟩ W).mono ?_
          rintro x w2 ⟨rfl, rfl⟩
          exact ⟨rfl, Below.refl _ _⟩)
        have hlp := lineP_len 1 e.1.tx
        have HLP : Hid ((lineP 1 e.1.tx).length ≤ 2002) := Lib.hid (by omega)
        clear hlp hk5
        go_wp2_with fail
        refine (KN.out _ (T3.out _)).mono ?_
        rintro x w2 ⟨rfl, b2⟩
        have hPA := (hp.out.alloc HB1.out (.cells (elB e).toArray 33)).alloc HB1.out (.cells #[.func (.func 58) #[] #[], .func (.func 59) #[] #[], .func (.func 60) #[] #[]] 67)
        have P2 := Lib.hid (hPA.below HB1.out b2)
        have hsz2 : B ≤ w2.heap.size := Nat.le_trans HB1.out P2.out.2.1.size
        clear b2 hPA lk
        go_wp2_with fail
        refine (writeString_any B B _ ⟨(lineP 1 e.1.tx).toArray⟩ w2 P2.out.1 (by have h1 := HLL.out; have h2 := HLP.out; rw [mk_size']; omega) hsz2).mono ?_
        rintro x w3 ⟨rfl, hq⟩
        have P3 := Lib.hid (P2.out.trans hq)
        have hsz3 : B ≤ w3.heap.size := Nat.le_trans HB1.out P3.out.2.1.size
        clear hq
        go_wp2_with fail
        refine (writeByteP B B _ w3 P3.out.1 (by have h1 := HLL.out; have h2 := HLP.out; show (plainP (blks (es.take k)) ++ lineP 1 e.1.tx).length + 1 ≤ _; rw [List.length_append]; omega) hsz3).mono ?_
        rintro x w4 ⟨rfl, hq⟩
        have P4 : Hid (Put B B (plainP (blks (es.take (k + 1)))) w1 w4) := Lib.hid (by
          rw [HE.out, HON.out, ← List.append_assoc]
          exact P3.out.trans hq)
        clear hq
        go_wp2
        go_roundw
        case rel => exact ⟨k + 1, by omega, by go_num, P4⟩
        case measure => simp [intOf]; omega
      by_cases hk5 : e.1.kd = 2
      · skip
        have HKV := Lib.hid (show kindV g e.1.kd = .agg #[.func (.func 58) #[] #[], .func (.func 59) #[] #[], .func (.func 61) #[] #[]] by rw [hk5]; rfl)
        have HIN := Lib.hid (show inB e.1.kd 1 5 = true by rw [hk5]; rfl)
        have HON := Lib.hid (show oneP e.1 = lineP 2 e.1.tx ++ [10] by unfold oneP; rw [HIN.out, if_pos rfl, hk5])
        have lk := KL.out (wr.alloc (.cells (elB e).toArray 33)) T2.out
        rw [HKV.out, HIN.out] at lk
        simp only [elB] at lk
        have KN : Hid (∀ W, Tbl g W → Calls Tryz.prog 61 #[.string ⟨e.1.tx.toArray⟩] W fun x w' => x = .returned (.string ⟨(lineP 2 e.1.tx).toArray⟩) ∧ Below W.heap.size W w') := Lib.hid (fun W hT => by
          exact flow_any ⟨e.1.tx.toArray⟩ W (by rw [mk_size']; omega))
        have hlp := lineP_len 2 e.1.tx
        have HLP : Hid ((lineP 2 e.1.tx).length ≤ 2002) := Lib.hid (by omega)
        clear hlp hk5
        go_wp2_with fail
        refine (KN.out _ (T3.out _)).mono ?_
        rintro x w2 ⟨rfl, b2⟩
        have hPA := (hp.out.alloc HB1.out (.cells (elB e).toArray 33)).alloc HB1.out (.cells #[.func (.func 58) #[] #[], .func (.func 59) #[] #[], .func (.func 61) #[] #[]] 67)
        have P2 := Lib.hid (hPA.below HB1.out b2)
        have hsz2 : B ≤ w2.heap.size := Nat.le_trans HB1.out P2.out.2.1.size
        clear b2 hPA lk
        go_wp2_with fail
        refine (writeString_any B B _ ⟨(lineP 2 e.1.tx).toArray⟩ w2 P2.out.1 (by have h1 := HLL.out; have h2 := HLP.out; rw [mk_size']; omega) hsz2).mono ?_
        rintro x w3 ⟨rfl, hq⟩
        have P3 := Lib.hid (P2.out.trans hq)
        have hsz3 : B ≤ w3.heap.size := Nat.le_trans HB1.out P3.out.2.1.size
        clear hq
        go_wp2_with fail
        refine (writeByteP B B _ w3 P3.out.1 (by have h1 := HLL.out; have h2 := HLP.out; show (plainP (blks (es.take k)) ++ lineP 2 e.1.tx).length + 1 ≤ _; rw [List.length_append]; omega) hsz3).mono ?_
        rintro x w4 ⟨rfl, hq⟩
        have P4 : Hid (Put B B (plainP (blks (es.take (k + 1)))) w1 w4) := Lib.hid (by
          rw [HE.out, HON.out, ← List.append_assoc]
          exact P3.out.trans hq)
        clear hq
        go_wp2
        go_roundw
        case rel => exact ⟨k + 1, by omega, by go_num, P4⟩
        case measure => simp [intOf]; omega
      by_cases hk5 : e.1.kd = 3
      · skip
        have HKV := Lib.hid (show kindV g e.1.kd = .agg #[.func (.func 62) #[] #[], .func (.func 63) #[] #[], .func (.func 88) #[] #[.pointer (some ⟨g + 1, 0, none⟩), .pointer (some ⟨g + 1 + 1, 0, none⟩)]] by rw [hk5]; rfl)
        have HIN := Lib.hid (show inB e.1.kd 1 5 = true by rw [hk5]; rfl)
        have HON := Lib.hid (show oneP e.1 = lineP 3 e.1.tx ++ [10] by unfold oneP; rw [HIN.out, if_pos rfl, hk5])
        have lk := KL.out (wr.alloc (.cells (elB e).toArray 33)) T2.out
        rw [HKV.out, HIN.out] at lk
        simp only [elB] at lk
        have KN : Hid (∀ W, Tbl g W → Calls Tryz.prog 88 #[.string ⟨e.1.tx.toArray⟩, .pointer (some ⟨g + 1, 0, none⟩), .pointer (some ⟨g + 1 + 1, 0, none⟩)] W fun x w' => x = .returned (.string ⟨(lineP 3 e.1.tx).toArray⟩) ∧ Below W.heap.size W w') := Lib.hid (fun W hT => by
          have hl : (⟨([34] : List UInt8).toArray⟩ : ByteArray).size + (⟨e.1.tx.toArray⟩ : ByteArray).size + (⟨([34] : List UInt8).toArray⟩ : ByteArray).size ≤ maxLen := by
            simp only [mk_size']; unfold maxLen; simp; omega
          refine (between1_any ⟨([34] : List UInt8).toArray⟩ ⟨([34] : List UInt8).toArray⟩ ⟨e.1.tx.toArray⟩ _ _ W (oneS_cell hT.2.1) (oneS_cell hT.2.2.1) hl).mono ?_
          rintro x w2 ⟨rfl, rfl⟩
          have hj : (⟨([34] : List UInt8).toArray⟩ ++ ⟨e.1.tx.toArray⟩ ++ ⟨([34] : List UInt8).toArray⟩ : ByteArray) = ⟨(lineP 3 e.1.tx).toArray⟩ := bytes_ext (by simp [lineP])
          exact ⟨by rw [hj], Below.refl _ _⟩)
        have hlp := lineP_len 3 e.1.tx
        have HLP : Hid ((lineP 3 e.1.tx).length ≤ 2002) := Lib.hid (by omega)
        clear hlp hk5
        go_wp2_with fail
        refine (KN.out _ (T3.out _)).mono ?_
        rintro x w2 ⟨rfl, b2⟩
        have hPA := (hp.out.alloc HB1.out (.cells (elB e).toArray 33)).alloc HB1.out (.cells #[.func (.func 62) #[] #[], .func (.func 63) #[] #[], .func (.func 88) #[] #[.pointer (some ⟨g + 1, 0, none⟩), .pointer (some ⟨g + 1 + 1, 0, none⟩)]] 67)
        have P2 := Lib.hid (hPA.below HB1.out b2)
        have hsz2 : B ≤ w2.heap.size := Nat.le_trans HB1.out P2.out.2.1.size
        clear b2 hPA lk
        go_wp2_with fail
        refine (writeString_any B B _ ⟨(lineP 3 e.1.tx).toArray⟩ w2 P2.out.1 (by have h1 := HLL.out; have h2 := HLP.out; rw [mk_size']; omega) hsz2).mono ?_
        rintro x w3 ⟨rfl, hq⟩
        have P3 := Lib.hid (P2.out.trans hq)
        have hsz3 : B ≤ w3.heap.size := Nat.le_trans HB1.out P3.out.2.1.size
        clear hq
        go_wp2_with fail
        refine (writeByteP B B _ w3 P3.out.1 (by have h1 := HLL.out; have h2 := HLP.out; show (plainP (blks (es.take k)) ++ lineP 3 e.1.tx).length + 1 ≤ _; rw [List.length_append]; omega) hsz3).mono ?_
        rintro x w4 ⟨rfl, hq⟩
        have P4 : Hid (Put B B (plainP (blks (es.take (k + 1)))) w1 w4) := Lib.hid (by
          rw [HE.out, HON.out, ← List.append_assoc]
          exact P3.out.trans hq)
        clear hq
        go_wp2
        go_roundw
        case rel => exact ⟨k + 1, by omega, by go_num, P4⟩
        case measure => simp [intOf]; omega
      by_cases hk5 : e.1.kd = 4
      · skip
        have HKV := Lib.hid (show kindV g e.1.kd = .agg #[.func (.func 58) #[] #[], .func (.func 59) #[] #[], .func (.func 88) #[] #[.pointer (some ⟨g + 1 + 1 + 1, 0, none⟩), .pointer (some ⟨g + 1 + 1 + 1 + 1, 0, none⟩)]] by rw [hk5]; rfl)
        have HIN := Lib.hid (show inB e.1.kd 1 5 = true by rw [hk5]; rfl)
        have HON := Lib.hid (show oneP e.1 = lineP 4 e.1.tx ++ [10] by unfold oneP; rw [HIN.out, if_pos rfl, hk5])
        have lk := KL.out (wr.alloc (.cells (elB e).toArray 33)) T2.out
        rw [HKV.out, HIN.out] at lk
        simp only [elB] at lk
        have KN : Hid (∀ W, Tbl g W → Calls Tryz.prog 88 #[.string ⟨e.1.tx.toArray⟩, .pointer (some ⟨g + 1 + 1 + 1, 0, none⟩), .pointer (some ⟨g + 1 + 1 + 1 + 1, 0, none⟩)] W fun x w' => x = .returned (.string ⟨(lineP 4 e.1.tx).toArray⟩) ∧ Below W.heap.size W w') := Lib.hid (fun W hT => by
          have hl : (⟨([91] : List UInt8).toArray⟩ : ByteArray).size + (⟨e.1.tx.toArray⟩ : ByteArray).size + (⟨([93] : List UInt8).toArray⟩ : ByteArray).size ≤ maxLen := by
            simp only [mk_size']; unfold maxLen; simp; omega
          refine (between1_any ⟨([91] : List UInt8).toArray⟩ ⟨([93] : List UInt8).toArray⟩ ⟨e.1.tx.toArray⟩ _ _ W (oneS_cell hT.2.2.2.1) (oneS_cell hT.2.2.2.2.1) hl).mono ?_
          rintro x w2 ⟨rfl, rfl⟩
          have hj : (⟨([91] : List UInt8).toArray⟩ ++ ⟨e.1.tx.toArray⟩ ++ ⟨([93] : List UInt8).toArray⟩ : ByteArray) = ⟨(lineP 4 e.1.tx).toArray⟩ := bytes_ext (by simp [lineP])
          exact ⟨by rw [hj], Below.refl _ _⟩)
        have hlp := lineP_len 4 e.1.tx
        have HLP : Hid ((lineP 4 e.1.tx).length ≤ 2002) := Lib.hid (by omega)
        clear hlp hk5
        go_wp2_with fail
        refine (KN.out _ (T3.out _)).mono ?_
        rintro x w2 ⟨rfl, b2⟩
        have hPA := (hp.out.alloc HB1.out (.cells (elB e).toArray 33)).alloc HB1.out (.cells #[.func (.func 58) #[] #[], .func (.func 59) #[] #[], .func (.func 88) #[] #[.pointer (some ⟨g + 1 + 1 + 1, 0, none⟩), .pointer (some ⟨g + 1 + 1 + 1 + 1, 0, none⟩)]] 67)
        have P2 := Lib.hid (hPA.below HB1.out b2)
        have hsz2 : B ≤ w2.heap.size := Nat.le_trans HB1.out P2.out.2.1.size
        clear b2 hPA lk
        go_wp2_with fail
        refine (writeString_any B B _ ⟨(lineP 4 e.1.tx).toArray⟩ w2 P2.out.1 (by have h1 := HLL.out; have h2 := HLP.out; rw [mk_size']; omega) hsz2).mono ?_
        rintro x w3 ⟨rfl, hq⟩
        have P3 := Lib.hid (P2.out.trans hq)
        have hsz3 : B ≤ w3.heap.size := Nat.le_trans HB1.out P3.out.2.1.size
        clear hq
        go_wp2_with fail
        refine (writeByteP B B _ w3 P3.out.1 (by have h1 := HLL.out; have h2 := HLP.out; show (plainP (blks (es.take k)) ++ lineP 4 e.1.tx).length + 1 ≤ _; rw [List.length_append]; omega) hsz3).mono ?_
        rintro x w4 ⟨rfl, hq⟩
        have P4 : Hid (Put B B (plainP (blks (es.take (k + 1)))) w1 w4) := Lib.hid (by
          rw [HE.out, HON.out, ← List.append_assoc]
          exact P3.out.trans hq)
        clear hq
        go_wp2
        go_roundw
        case rel => exact ⟨k + 1, by omega, by go_num, P4⟩
        case measure => simp [intOf]; omega
      by_cases hk5 : e.1.kd = 5
      · skip
        have HKV := Lib.hid (show kindV g e.1.kd = .agg #[.func (.func 65) #[] #[], .func (.func 59) #[] #[], .func (.func 88) #[] #[.pointer (some ⟨g + 1 + 1 + 1 + 1 + 1, 0, none⟩), .pointer (some ⟨g + 1 + 1 + 1 + 1 + 1 + 1, 0, none⟩)]] by rw [hk5]; rfl)
        have HIN := Lib.hid (show inB e.1.kd 1 5 = true by rw [hk5]; rfl)
        have HON := Lib.hid (show oneP e.1 = lineP 5 e.1.tx ++ [10] by unfold oneP; rw [HIN.out, if_pos rfl, hk5])
        have lk := KL.out (wr.alloc (.cells (elB e).toArray 33)) T2.out
        rw [HKV.out, HIN.out] at lk
        simp only [elB] at lk
        have KN : Hid (∀ W, Tbl g W → Calls Tryz.prog 88 #[.string ⟨e.1.tx.toArray⟩, .pointer (some ⟨g + 1 + 1 + 1 + 1 + 1, 0, none⟩), .pointer (some ⟨g + 1 + 1 + 1 + 1 + 1 + 1, 0, none⟩)] W fun x w' => x = .returned (.string ⟨(lineP 5 e.1.tx).toArray⟩) ∧ Below W.heap.size W w') := Lib.hid (fun W hT => by
          have hl : (⟨([35] : List UInt8).toArray⟩ : ByteArray).size + (⟨e.1.tx.toArray⟩ : ByteArray).size + (⟨([] : List UInt8).toArray⟩ : ByteArray).size ≤ maxLen := by
            simp only [mk_size']; unfold maxLen; simp; omega
          refine (between1_any ⟨([35] : List UInt8).toArray⟩ ⟨([] : List UInt8).toArray⟩ ⟨e.1.tx.toArray⟩ _ _ W (oneS_cell hT.2.2.2.2.2.1) (oneS_cell hT.2.2.2.2.2.2) hl).mono ?_
          rintro x w2 ⟨rfl, rfl⟩
          have hj : (⟨([35] : List UInt8).toArray⟩ ++ ⟨e.1.tx.toArray⟩ ++ ⟨([] : List UInt8).toArray⟩ : ByteArray) = ⟨(lineP 5 e.1.tx).toArray⟩ := bytes_ext (by simp [lineP])
          exact ⟨by rw [hj], Below.refl _ _⟩)
        have hlp := lineP_len 5 e.1.tx
        have HLP : Hid ((lineP 5 e.1.tx).length ≤ 2002) := Lib.hid (by omega)
        clear hlp hk5
        go_wp2_with fail
        refine (KN.out _ (T3.out _)).mono ?_
        rintro x w2 ⟨rfl, b2⟩
        have hPA := (hp.out.alloc HB1.out (.cells (elB e).toArray 33)).alloc HB1.out (.cells #[.func (.func 65) #[] #[], .func (.func 59) #[] #[], .func (.func 88) #[] #[.pointer (some ⟨g + 1 + 1 + 1 + 1 + 1, 0, none⟩), .pointer (some ⟨g + 1 + 1 + 1 + 1 + 1 + 1, 0, none⟩)]] 67)
        have P2 := Lib.hid (hPA.below HB1.out b2)
        have hsz2 : B ≤ w2.heap.size := Nat.le_trans HB1.out P2.out.2.1.size
        clear b2 hPA lk
        go_wp2_with fail
        refine (writeString_any B B _ ⟨(lineP 5 e.1.tx).toArray⟩ w2 P2.out.1 (by have h1 := HLL.out; have h2 := HLP.out; rw [mk_size']; omega) hsz2).mono ?_
        rintro x w3 ⟨rfl, hq⟩
        have P3 := Lib.hid (P2.out.trans hq)
        have hsz3 : B ≤ w3.heap.size := Nat.le_trans HB1.out P3.out.2.1.size
        clear hq
        go_wp2_with fail
        refine (writeByteP B B _ w3 P3.out.1 (by have h1 := HLL.out; have h2 := HLP.out; show (plainP (blks (es.take k)) ++ lineP 5 e.1.tx).length + 1 ≤ _; rw [List.length_append]; omega) hsz3).mono ?_
        rintro x w4 ⟨rfl, hq⟩
        have P4 : Hid (Put B B (plainP (blks (es.take (k + 1)))) w1 w4) := Lib.hid (by
          rw [HE.out, HON.out, ← List.append_assoc]
          exact P3.out.trans hq)
        clear hq
        go_wp2
        go_roundw
        case rel => exact ⟨k + 1, by omega, by go_num, P4⟩
        case measure => simp [intOf]; omega
      have HKV := Lib.hid (show kindV g e.1.kd = .agg #[.nilFunc, .nilFunc, .nilFunc] by unfold kindV; rw [if_neg (by assumption), if_neg (by assumption), if_neg (by assumption), if_neg (by assumption), if_neg (by assumption)])
      have HIN := Lib.hid (show inB e.1.kd 1 5 = false by simp [inB]; omega)
      have HON := Lib.hid (show oneP e.1 = [] by unfold oneP; rw [HIN.out]; rfl)
      have lk := KL.out (wr.alloc (.cells (elB e).toArray 33)) T2.out
      rw [HKV.out, HIN.out] at lk
      simp only [elB] at lk
      have hPA := (hp.out.alloc HB1.out (.cells (elB e).toArray 33)).alloc HB1.out (.cells #[.nilFunc, .nilFunc, .nilFunc] 67)
      have P4 : Hid (Put B B (plainP (blks (es.take (k + 1)))) w1 ((wr.alloc (.cells (elB e).toArray 33)).alloc (.cells #[.nilFunc, .nilFunc, .nilFunc] 67))) := Lib.hid (by
        rw [HE.out, HON.out, List.append_nil]
        exact hPA)
      clear hPA
      go_wp2
      go_roundw
      case rel => exact ⟨k + 1, by omega, by go_num, P4⟩
      case measure => simp [intOf]; omega
    · obtain rfl : k = n := by omega
      have hE : plainP (blks (es.take k)) = plainP (blks es) := by rw [← HL.out, List.take_length]
      have HIe := Lib.hid hp.out.1
      rw [hE] at HIe
      have hsz : B ≤ wr.heap.size := Nat.le_trans HB1.out hp.out.2.1.size
      have BWe := Lib.hid bw
      clear hE bw
      go_wp2_with fail
      refine (bldString B B (plainP (blks es)) wr HIe.out hsz).mono ?_
      rintro x w3 ⟨rfl, -, b3, -⟩
      have BZ := Lib.hid (BWe.out.trans (by rw [HBW.out]; exact b3))
      go_wp2
      go_ret
      exact ⟨rfl, BZ.out⟩
end Go.Proofs.YtdhioalfgogcdaaGreatDoor
