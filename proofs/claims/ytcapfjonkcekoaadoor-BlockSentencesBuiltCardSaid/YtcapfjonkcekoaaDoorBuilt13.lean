/- BlockSentencesBuilt: the walk of the statement's text. -/
import Derived.Test.YtcapfjonkcekoaaDoorBlkQ
import Derived.Test.YtcapfjonkcekoaaDoorPrefixes10
import Derived.BigQuiet
namespace Go.Proofs.YtcapfjonkcekoaaDoor
open Go.RowKit Go.MapKept
set_option maxRecDepth 100000
set_option linter.unusedSimpArgs false
set_option linter.unusedVariables false
def wordsS : List (List UInt8) := [[114, 97, 105, 110], [119, 101, 32, 74, 46, 32, 119, 111, 110], [97, 116, 32, 51, 46, 53], [97, 46, 98, 32, 105, 115], [115, 111, 32, 88, 46, 32, 89, 46, 32, 90, 46, 32, 114, 97, 110], [119, 104, 121, 63, 110, 111], [111, 107]]
def marksS : List (List UInt8) := [[46], [33], [63], [63, 33], [46, 46, 46], [33, 46]]
def tailS : List UInt8 := [116, 111, 32, 98, 101, 32, 32, 99, 111, 110, 116, 105, 110, 117, 101, 100, 32, 98, 121, 32, 74, 46, 32, 68]
def tidyB (s : List UInt8) : Bool := decide (s ≠ []) && (decide (s.head? ≠ some 32) && decide (s.getLast? ≠ some 32))
theorem tidy_of {s : List UInt8} (h : tidyB s = true) : Tidy s := by
  simpa [tidyB, Tidy] using h
theorem all_sent : ((wordsS.flatMap fun x => marksS.map fun y => x ++ [32, 120] ++ y).all fun s => tidyB s && (cut 0 [] s == [s, []])) = true := by decide +kernel
theorem tail_sent : (tidyB tailS && (cut 0 [] tailS == [tailS])) = true := by decide +kernel
theorem sent_of {x y : List UInt8} (hx : x ∈ wordsS) (hy : y ∈ marksS) : Sent (x ++ [32, 120] ++ y) true := by
  have h := List.all_eq_true.1 all_sent (x ++ [32, 120] ++ y) (List.mem_flatMap.2 ⟨x, hx, List.mem_map.2 ⟨y, hy, rfl⟩⟩)
  simp only [Bool.and_eq_true, beq_iff_eq] at h
  exact ⟨tidy_of h.1, h.2⟩
theorem tail_is : Sent tailS false := by
  have h := tail_sent
  simp only [Bool.and_eq_true, beq_iff_eq] at h
  exact ⟨tidy_of h.1, h.2⟩
def pickV (k : Int) (n : Nat) : Int := if k < 0 then -(k + 1).tmod n else k % n
theorem pickV_lt (k : Int) (n : Nat) (hn : 0 < n) : ∃ r : Nat, r < n ∧ pickV k n = r := by
  have hn0 : (n : Int) ≠ 0 := by omega
  unfold pickV
  split
  · have f1 := Int.tmod_lt_of_pos (-(k + 1)) (b := (n : Int)) (by omega)
    have f2 := Int.tmod_nonneg (n : Int) (a := -(k + 1)) (by omega)
    rw [Int.neg_tmod] at f1 f2
    exact ⟨(-(k + 1).tmod n).toNat, by omega, by omega⟩
  · have f1 := Int.emod_lt_of_pos k (b := (n : Int)) (by omega)
    have f2 := Int.emod_nonneg k (b := (n : Int)) hn0
    exact ⟨(k % n).toNat, by omega, by omega⟩
set_option maxHeartbeats 1000000 in
theorem pick_val (k : Int) (n : Nat) (w : World) (hk : Bd k) (hn : 0 < n) (hm : n ≤ 100000000) :
    Calls Tryd.prog 34 #[.int .i64 k, .int .i64 n] w fun x w' => x = .returned (.int .i64 (pickV k n)) ∧ w = w' := by
  obtain ⟨h1, h2⟩ := hk
  have hn0 : (n : Int) ≠ 0 := by omega
  by_cases hneg : k < 0
  · have f1 := Int.tmod_lt_of_pos (-(k + 1)) (b := (n : Int)) (by omega)
    have f2 := Int.tmod_nonneg (n : Int) (a := -(k + 1)) (by omega)
    rw [Int.neg_tmod] at f1 f2
    have HP := Lib.hid (show pickV k n = -(k + 1).tmod n by unfold pickV; rw [if_pos hneg])
    go_enter Tryd.func34, Tryd.ntmps34
    go_wp2
    go_ret
    exact ⟨by rw [HP.out]; rfl, rfl⟩
  · have HP := Lib.hid (show pickV k n = k % n by unfold pickV; rw [if_neg hneg])
    go_enter Tryd.func34, Tryd.ntmps34
    go_wp2
    go_ret
    exact ⟨by rw [HP.out]; rfl, rfl⟩
theorem strs_at {W : World} {g : Nat} {l : List (List UInt8)} {fr : Nat × Nat} (h : W.heap[g]? = some (.cells (l.map strV).toArray 9 fr)) {j : Nat} {x : List UInt8} (hx : l[j]? = some x) : W.cell? ⟨g, j, none⟩ = some (.string ⟨x.toArray⟩) := by
  rw [Joins.cell_of_block h]
  simp [hx, strV]
theorem words_len : ∀ x ∈ wordsS, x.length ≤ 20 := by decide
theorem marks_len : ∀ x ∈ marksS, x.length ≤ 3 := by decide
set_option maxHeartbeats 8000000 in
theorem sentence_any (k : Int) (w : World) (hk : Bd k) :
    Calls Tryd.prog 37 #[.int .i64 k] w fun x w' => ∃ s, Hid (Sent s true) ∧ s.length ≤ 30 ∧ x = .returned (strV s) ∧ Below w.heap.size w w' := by
  obtain ⟨r, hr, er⟩ := pickV_lt k 7 (by omega)
  obtain ⟨m, hm, em⟩ := pickV_lt k 42 (by omega)
  have K7 := Lib.hid (fun W => pick_val k 7 W hk (by omega) (by omega))
  have K42 := Lib.hid (fun W => pick_val k 42 W hk (by omega) (by omega))
  rw [er] at K7
  rw [em] at K42
  have L7 : Hid (∀ W, Calls Tryd.prog 34 #[.int .i64 k, .int .i64 7] W fun x w' => x = .returned (.int .i64 r) ∧ w' = W) := Lib.hid (fun W => (K7.out W).mono fun _ _ h => ⟨h.1, h.2.symm⟩)
  have L42 : Hid (∀ W, Calls Tryd.prog 34 #[.int .i64 k, .int .i64 42] W fun x w' => x = .returned (.int .i64 m) ∧ w' = W) := Lib.hid (fun W => (K42.out W).mono fun _ _ h => ⟨h.1, h.2.symm⟩)
  clear er em K7 K42
  have hmd : m / 7 < 6 := by omega
  obtain ⟨x, hx⟩ : ∃ x, wordsS[r]? = some x := ⟨_, List.getElem?_eq_getElem (show r < wordsS.length from hr)⟩
  obtain ⟨y, hy⟩ : ∃ y, marksS[m / 7]? = some y := ⟨_, List.getElem?_eq_getElem (show m / 7 < marksS.length from hmd)⟩
  have HS := Lib.hid (sent_of (List.mem_of_getElem? hx) (List.mem_of_getElem? hy))
  have lx := words_len x (List.mem_of_getElem? hx)
  have ly := marks_len y (List.mem_of_getElem? hy)
  have B0 := Lib.hid (((Below.refl w.heap.size w).alloc (Nat.le_refl _) (.cells (wordsS.map strV).toArray 9)).alloc (by simp) (.cells (marksS.map strV).toArray 9))
  have c1 : ((w.alloc (.cells (wordsS.map strV).toArray 9)).alloc (.cells (marksS.map strV).toArray 9)).cell? ⟨w.heap.size, r, none⟩ = some (.string ⟨x.toArray⟩) :=
    strs_at (fr := (0, 0)) (by rw [Below.heap_alloc _ _ _ (by simp)]; exact heap_alloc_new w _) hx
  have c2 : ((w.alloc (.cells (wordsS.map strV).toArray 9)).alloc (.cells (marksS.map strV).toArray 9)).cell? ⟨w.heap.size + 1, m / 7, none⟩ = some (.string ⟨y.toArray⟩) :=
    strs_at (fr := (0, 0)) (by have := heap_alloc_new (w.alloc (.cells (wordsS.map strV).toArray 9)) (.cells (marksS.map strV).toArray 9); simpa using this) hy
  have C1 := Lib.hid c1
  have C2 := Lib.hid c2
  clear hx hy hk c1 c2
  go_enter Tryd.func37, Tryd.ntmps37
  go_wp2
  generalize hW : (w.alloc (.cells #[.string ⟨#[114, 97, 105, 110]⟩, .string ⟨#[119, 101, 32, 74, 46, 32, 119, 111, 110]⟩, .string ⟨#[97, 116, 32, 51, 46, 53]⟩, .string ⟨#[97, 46, 98, 32, 105, 115]⟩, .string ⟨#[115, 111, 32, 88, 46, 32, 89, 46, 32, 90, 46, 32, 114, 97, 110]⟩, .string ⟨#[119, 104, 121, 63, 110, 111]⟩, .string ⟨#[111, 107]⟩] 9)).alloc (.cells #[.string ⟨#[46]⟩, .string ⟨#[33]⟩, .string ⟨#[63]⟩, .string ⟨#[63, 33]⟩, .string ⟨#[46, 46, 46]⟩, .string ⟨#[33, 46]⟩] 9) = W
  have d1 : W.cell? ⟨w.heap.size, r, none⟩ = some (.string ⟨x.toArray⟩) := by rw [← hW]; exact C1.out
  have d2 : W.cell? ⟨w.heap.size + 1, m / 7, none⟩ = some (.string ⟨y.toArray⟩) := by rw [← hW]; exact C2.out
  have B1 := Lib.hid (show Below w.heap.size w W by rw [← hW]; exact B0.out)
  clear hW C1 C2 B0
  have f1 : (r : Int) < 7 := by omega
  have f2 : ((m / 7 : Nat) : Int) < 6 := by omega
  have z1 := mk_size' x
  have z2 := mk_size' y
  go_quiet (first | (go_at_call_of 34 (Value.int .i64 7); exact Calls.quiet_of_same (L7.out _)) | (go_at_call_of 34 (Value.int .i64 42); exact Calls.quiet_of_same (L42.out _)))
  go_wp2
  go_ret
  exact ⟨x ++ [32, 120] ++ y, HS, by simp; omega, by unfold strV; congr 2, below_drewN B1.out nq⟩
theorem built_is (k : Nat) (hk : 1 ≤ k) : ∀ (l : List (List UInt8)), (∀ s ∈ l, Sent s true) → sentP (l.flatMap fun s => s ++ List.replicate k 32) = l
  | [], _ => sent_spaces 0
  | s :: l, h => by
    rw [List.flatMap_cons, List.append_assoc, sent_step (h s List.mem_cons_self) k _ hk, built_is k hk l (fun x hx => h x (List.mem_cons_of_mem _ hx))]
theorem built_end (k : Nat) (hk : 1 ≤ k) (t : List UInt8) (ht : Sent t false) : ∀ (l : List (List UInt8)), (∀ s ∈ l, Sent s true) → sentP ((l.flatMap fun s => s ++ List.replicate k 32) ++ (t ++ List.replicate k 32)) = l ++ [t]
  | [], _ => sent_last ht k
  | s :: l, h => by
    rw [List.flatMap_cons, List.append_assoc, List.append_assoc, sent_step (h s List.mem_cons_self) k _ hk, built_end k hk t ht l (fun x hx => h x (List.mem_cons_of_mem _ hx))]; rfl
/-- The text so far. -/
def txtS (k : Nat) (l : List (List UInt8)) : List UInt8 := List.replicate k 32 ++ l.flatMap fun s => s ++ List.replicate k 32
theorem txtS_snoc (k : Nat) (l : List (List UInt8)) (s : List UInt8) : txtS k (l ++ [s]) = txtS k l ++ s ++ List.replicate k 32 := by
  simp [txtS]
theorem txtS_len (k : Nat) : ∀ (l : List (List UInt8)), (∀ s ∈ l, s.length ≤ 30) → (txtS k l).length ≤ k + (30 + k) * l.length
  | [], _ => by simp [txtS]
  | s :: l, h => by
    have h1 := txtS_len k l (fun x hx => h x (List.mem_cons_of_mem _ hx))
    have h2 := h s List.mem_cons_self
    unfold txtS at h1 ⊢
    simp only [List.flatMap_cons, List.length_append, List.length_replicate, List.length_cons, Nat.mul_add] at h1 ⊢
    omega
set_option maxHeartbeats 8000000 in
theorem built13 (a : Option Addr) (n c : Nat) (zs : List Int) (k : Int) (b : Bool) (w : World) (h : IsInts .i64 w a n c zs) (hk : (Lit.int .i64 k).wf = true) :
    Calls Tryd.prog 13 #[.slice a n c, .int .i64 k, .bool b] w fun x w' => x = .returned (.bool true) ∧ Below w.heap.size w w' := by
  have hk' := Lib.hid (wf64 hk)
  have hcm := h.2.2.1
  have hnc := h.2.1
  have hbd := fun {i : Nat} (hi : i < n) => h.bd hi
  have HBD : Hid (∀ i, i < n → -9223372036854775808 ≤ zs.getD i 0 ∧ zs.getD i 0 ≤ 9223372036854775807) := Lib.hid (fun i hi => hbd hi)
  have HA := Lib.hid h.2.2.2.2
  unfold maxLen at hcm
  clear h hk hbd
  obtain ⟨i0, hi, hz0, hz1, hz2⟩ := info_parts strInfo
  go_enter Tryd.func13, Tryd.ntmps13
  go_wp2_with fail
  refine (sane_any w).mono ?_
  rintro x w1 ⟨rfl, b1⟩
  have B1 := Lib.hid b1
  clear b1
  obtain ⟨j, hj, ej⟩ := pickV_lt k 4 (by omega)
  have K4 := pick_val k 4 w1 hk'.out (by omega) (by omega)
  rw [ej] at K4
  have L4 : Hid (Calls Tryd.prog 34 #[.int .i64 k, .int .i64 4] w1 fun x w' => x = .returned (.int .i64 j) ∧ w1 = w') := Lib.hid K4
  clear K4 ej
  go_wp2_with fail
  refine L4.out.mono ?_
  rintro x w2 ⟨rfl, rfl⟩
  clear L4
  have hex : (⟨#[32, 32, 32, 32]⟩ : ByteArray).extract 0 (1 + j) = ⟨Array.replicate (1 + j) 32⟩ := by
    match j, hj with
    | 0, _ => rfl
    | 1, _ => rfl
    | 2, _ => rfl
    | 3, _ => rfl
  have hsz4 : (⟨#[32, 32, 32, 32]⟩ : ByteArray).size = 4 := rfl
  go_wp2
  obtain ⟨q, hq⟩ : ∃ q, q = 1 + j := ⟨_, rfl⟩
  rw [hex, ← hq]
  have hq1 : 1 ≤ q := by omega
  have hq4 : q ≤ 4 := by omega
  have zq : (⟨Array.replicate q (32 : UInt8)⟩ : ByteArray).size = q := by simp [ByteArray.size]
  clear hex hsz4 hq hj
  go_loopw [11, 10, 9] (fun i v t wr => ∃ (k : Nat) (l : List (List UInt8)), k ≤ n ∧ k ≤ 30 ∧ i = .int .i64 k ∧ l.length = k ∧ t = .string ⟨(txtS q l).toArray⟩ ∧ Hid (∀ s ∈ l, Sent s true ∧ s.length ≤ 30) ∧ Hid (wr.ownsRow w.heap.size 9 1 v k (l.map strV)) ∧ Hid (Below w.heap.size w wr)) (fun i _ _ _ => n - (intOf i).toNat)
  case atStart => exact ⟨0, [], Nat.zero_le _, Nat.zero_le _, rfl, rfl, by simp [txtS], Lib.hid (by simp), Lib.hid (World.ownsRow_nil _ _ _ _), B1⟩
  case round =>
    obtain ⟨p, l, hp, hp30, rfl, hl, rfl, hall, hown, hb⟩ := hrel
    subst hl
    obtain ⟨va, vc, rfl⟩ := own_slice hown.out
    have htl := txtS_len q l (fun s hs => (hall.out s hs).2)
    have hql : (30 + q) * l.length ≤ 34 * 30 := Nat.mul_le_mul (by omega) (by omega)
    have zt := mk_size' (txtS q l)
    by_cases hlt : l.length < n ∧ l.length < 30
    · obtain ⟨hlt1, hlt2⟩ := hlt
      have g1 : (l.length : Int) < n := by omega
      have g2 : (l.length : Int) < 30 := by omega
      obtain ⟨bb, off, rfl, cz⟩ := HA.out.resolve_left (by omega)
      have hcell := cellOver hb.out (cz l.length hlt1)
      have hbz : Bd (zs.getD l.length 0) := HBD.out l.length hlt1
      generalize zs.getD l.length 0 = z at *
      have K := Lib.hid (sentence_any z wr hbz)
      clear cz hbz
      go_wp2_with fail
      refine K.out.mono ?_
      rintro x w3 ⟨s, hsent, hs30, rfl, b3⟩
      have hs0 := hb.out.size
      have hs3 := b3.size
      have O3 := Lib.hid (own_over hown.out b3)
      have B3 := Lib.hid (bel2 hb.out b3)
      have hst : strV s = .string ⟨s.toArray⟩ := rfl
      have zs' := mk_size' s
      rw [hst]
      clear b3 K hown hcell
      have hsn := Lib.hid (txtS_snoc q l s)
      have AL := Lib.hid (show ∀ t ∈ l ++ [s], Sent t true ∧ t.length ≤ 30 from fun t ht => by
        rcases List.mem_append.1 ht with h | h
        · exact hall.out t h
        · rw [List.mem_singleton] at h; subst h; exact ⟨hsent.out, hs30⟩)
      have BA := Lib.hid (B3.out.alloc (by omega) (.cells #[.string ⟨s.toArray⟩] 9))
      go_wp2_with (at_builtin; refine wpList_append_own _ rfl _ _ 39 rfl w.heap.size 9 i0 (.string ⟨#[]⟩) 1 16 Tryd.underlying39 hi hz0 hz1 hz2 rfl (by decide) (.slice va l.length vc) _ _ rfl (O3.out.alloc _) ⟨w3.heap.size, 0, none⟩ 1 1 [.string ⟨s.toArray⟩] rfl rfl (cell_one_new _ _ _) (by simp [Value.oneCell']) (by unfold maxLen; omega) (by omega) (by simp; omega) ?_; intro v' w4 hown' hgrow _)
      have B4 := Lib.hid (BA.out.grown hgrow (by simp; omega) (fun g hg => (O3.out.lt g hg).1))
      have O4 := Lib.hid (show w4.ownsRow w.heap.size 9 1 v' (l.length + 1) ((l ++ [s]).map strV) by rw [List.map_append]; exact hown')
      clear hown' hgrow
      go_wp2
      go_roundw
      case rel => exact ⟨l.length + 1, l ++ [s], by omega, by omega, by go_num, by simp, by rw [hsn.out]; first | (congr 1; done) | (congr 1; exact bytes_ext (by simp)), AL, O4, B4⟩
      case measure => simp [intOf]; omega
    · have hns : ¬ ((l.length : Int) < n ∧ (l.length : Int) < 30) := by omega
      have AS := Lib.hid (fun s hs => (hall.out s hs).1)
      have HO := Lib.hid hown.out
      have HB := Lib.hid hb.out
      cases b
      · have hlast : sentP (txtS q l) = l := by
          show sentP (List.replicate q 32 ++ _) = l
          rw [sent_lead]; exact built_is q hq1 l AS.out
        have K := sents_any ⟨(txtS q l).toArray⟩ wr (by omega)
        rw [show (⟨(txtS q l).toArray⟩ : ByteArray).data.toList = txtS q l from rfl, hlast] at K
        have K := Lib.hid K
        have fin : ∀ (a' : Option Addr) (c' : Nat) (w5 : World), w5.ownsRow wr.heap.size 9 1 (.slice a' l.length c') l.length (l.map strV) → Below wr.heap.size wr w5 → Calls Tryd.prog 28 #[.slice a' l.length c', .slice va l.length vc] w5 fun x w' => x = .returned (.bool true) ∧ Below w.heap.size w w' := by
          intro a' c' w5 ho hb5
          have := samess_any a' c' l va vc l w5 (ss_of_own ho rfl) (ss_of_own (own_over HO.out hb5) rfl)
          exact this.mono fun x w' h => ⟨by rw [h.1]; simp, bel2 (bel2 HB.out hb5) h.2⟩
        have FIN := Lib.hid fin
        clear fin hlast hown hb
        by_cases g1 : l.length < n
        · have g2 : ¬ (l.length : Int) < 30 := by omega
          have g1' : (l.length : Int) < n := by omega
          go_wp2_with (first | (go_at_call 29; refine K.out.mono ?_; rintro y w5 ⟨a', c', rfl, ho, b5⟩; have OH := Lib.hid ho; have BH := Lib.hid b5; clear ho b5) | (go_at_call 28; refine (FIN.out _ _ _ OH.out BH.out).mono ?_; rintro y w6 ⟨rfl, b6⟩))
          go_ret
          exact ⟨rfl, b6⟩
        · have g1' : ¬ (l.length : Int) < n := by omega
          go_wp2_with (first | (go_at_call 29; refine K.out.mono ?_; rintro y w5 ⟨a', c', rfl, ho, b5⟩; have OH := Lib.hid ho; have BH := Lib.hid b5; clear ho b5) | (go_at_call 28; refine (FIN.out _ _ _ OH.out BH.out).mono ?_; rintro y w6 ⟨rfl, b6⟩))
          go_ret
          exact ⟨rfl, b6⟩
      · have hlast : sentP (txtS q l ++ tailS ++ List.replicate q 32) = l ++ [tailS] := by
          have e : txtS q l ++ tailS ++ List.replicate q 32 = List.replicate q 32 ++ ((l.flatMap fun s => s ++ List.replicate q 32) ++ (tailS ++ List.replicate q 32)) := by simp [txtS]
          rw [e, sent_lead]; exact built_end q hq1 tailS tail_is l AS.out
        have htl2 : tailS.length = 24 := rfl
        have zx : ((⟨(txtS q l).toArray⟩ : ByteArray) ++ ⟨#[116, 111, 32, 98, 101, 32, 32, 99, 111, 110, 116, 105, 110, 117, 101, 100, 32, 98, 121, 32, 74, 46, 32, 68]⟩ ++ ⟨Array.replicate q (32 : UInt8)⟩).size ≤ 1000000 := by
          simp only [ByteArray.size_append, zq, zt]
          have : (⟨#[116, 111, 32, 98, 101, 32, 32, 99, 111, 110, 116, 105, 110, 117, 101, 100, 32, 98, 121, 32, 74, 46, 32, 68]⟩ : ByteArray).size = 24 := rfl
          omega
        have K := fun W => sents_any ((⟨(txtS q l).toArray⟩ : ByteArray) ++ ⟨#[116, 111, 32, 98, 101, 32, 32, 99, 111, 110, 116, 105, 110, 117, 101, 100, 32, 98, 121, 32, 74, 46, 32, 68]⟩ ++ ⟨Array.replicate q (32 : UInt8)⟩) W zx
        rw [show ((⟨(txtS q l).toArray⟩ : ByteArray) ++ ⟨#[116, 111, 32, 98, 101, 32, 32, 99, 111, 110, 116, 105, 110, 117, 101, 100, 32, 98, 121, 32, 74, 46, 32, 68]⟩ ++ ⟨Array.replicate q (32 : UInt8)⟩).data.toList = txtS q l ++ tailS ++ List.replicate q 32 by simp [tailS], hlast] at K
        have K := Lib.hid K
        have BA := Lib.hid (HB.out.alloc HB.out.size (.cells #[.string ⟨#[116, 111, 32, 98, 101, 32, 32, 99, 111, 110, 116, 105, 110, 117, 101, 100, 32, 98, 121, 32, 74, 46, 32, 68]⟩] 9))
        have hs0 := HB.out.size
        have z24 : (⟨#[116, 111, 32, 98, 101, 32, 32, 99, 111, 110, 116, 105, 110, 117, 101, 100, 32, 98, 121, 32, 74, 46, 32, 68]⟩ : ByteArray).size = 24 := rfl
        clear hlast hown hb zx
        by_cases g1 : l.length < n
        · have g2 : ¬ (l.length : Int) < 30 := by omega
          have g1' : (l.length : Int) < n := by omega
          (go_wp2_with (first | (at_builtin; refine wpList_append_own _ rfl _ _ 39 rfl w.heap.size 9 i0 (.string ⟨#[]⟩) 1 16 Tryd.underlying39 hi hz0 hz1 hz2 rfl (by decide) (.slice va l.length vc) _ _ rfl (HO.out.alloc _) ⟨wr.heap.size, 0, none⟩ 1 1 [.string ⟨#[116, 111, 32, 98, 101, 32, 32, 99, 111, 110, 116, 105, 110, 117, 101, 100, 32, 98, 121, 32, 74, 46, 32, 68]⟩] rfl rfl (cell_one_new _ _ _) (by simp [Value.oneCell']) (by unfold maxLen; omega) (by omega) (by simp; omega) ?_; intro v' w4 hown' hgrow _; obtain ⟨a4, c4, rfl⟩ := own_slice hown'; have B4 := Lib.hid (BA.out.grown hgrow (by simp; omega) (fun g hg => (HO.out.lt g hg).1)); have O4 := Lib.hid (show w4.ownsRow w.heap.size 9 1 (.slice a4 (l.length + 1) c4) (l.length + 1) ((l ++ [tailS]).map strV) by rw [List.map_append]; exact hown'); clear hown' hgrow) | fail))
          refine (K.out w4).mono ?_
          rintro y w5 ⟨a', c', rfl, ho, b5⟩
          have hle : (l ++ [tailS]).length = l.length + 1 := by simp
          have FIN := Lib.hid (samess_any a' c' (l ++ [tailS]) a4 c4 (l ++ [tailS]) w5 (ss_of_own ho rfl) (ss_of_own (own_over O4.out b5) hle))
          rw [hle] at FIN ⊢
          have BH := Lib.hid (bel2 B4.out b5)
          clear ho b5 O4 B4
          go_wp2_with fail
          refine FIN.out.mono ?_
          rintro y w6 ⟨rfl, b6⟩
          go_wp2
          go_ret
          exact ⟨by simp, bel2 BH.out b6⟩
        · have g1' : ¬ (l.length : Int) < n := by omega
          (go_wp2_with (first | (at_builtin; refine wpList_append_own _ rfl _ _ 39 rfl w.heap.size 9 i0 (.string ⟨#[]⟩) 1 16 Tryd.underlying39 hi hz0 hz1 hz2 rfl (by decide) (.slice va l.length vc) _ _ rfl (HO.out.alloc _) ⟨wr.heap.size, 0, none⟩ 1 1 [.string ⟨#[116, 111, 32, 98, 101, 32, 32, 99, 111, 110, 116, 105, 110, 117, 101, 100, 32, 98, 121, 32, 74, 46, 32, 68]⟩] rfl rfl (cell_one_new _ _ _) (by simp [Value.oneCell']) (by unfold maxLen; omega) (by omega) (by simp; omega) ?_; intro v' w4 hown' hgrow _; obtain ⟨a4, c4, rfl⟩ := own_slice hown'; have B4 := Lib.hid (BA.out.grown hgrow (by simp; omega) (fun g hg => (HO.out.lt g hg).1)); have O4 := Lib.hid (show w4.ownsRow w.heap.size 9 1 (.slice a4 (l.length + 1) c4) (l.length + 1) ((l ++ [tailS]).map strV) by rw [List.map_append]; exact hown'); clear hown' hgrow) | fail))
          refine (K.out w4).mono ?_
          rintro y w5 ⟨a', c', rfl, ho, b5⟩
          have hle : (l ++ [tailS]).length = l.length + 1 := by simp
          have FIN := Lib.hid (samess_any a' c' (l ++ [tailS]) a4 c4 (l ++ [tailS]) w5 (ss_of_own ho rfl) (ss_of_own (own_over O4.out b5) hle))
          rw [hle] at FIN ⊢
          have BH := Lib.hid (bel2 B4.out b5)
          clear ho b5 O4 B4
          go_wp2_with fail
          refine FIN.out.mono ?_
          rintro y w6 ⟨rfl, b6⟩
          go_wp2
          go_ret
          exact ⟨by simp, bel2 BH.out b6⟩
end Go.Proofs.YtcapfjonkcekoaaDoor
