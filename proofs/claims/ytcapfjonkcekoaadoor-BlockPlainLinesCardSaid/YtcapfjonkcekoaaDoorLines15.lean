/- BlockPlainLines: the walk of the statement's text. -/
import Derived.Test.YtcapfjonkcekoaaDoorBlkR
namespace Go.Proofs.YtcapfjonkcekoaaDoor
open Go.RowKit Go.MapKept
set_option maxRecDepth 100000
set_option linter.unusedSimpArgs false
set_option linter.unusedVariables false
theorem takeE_snoc {α : Type} {l : List α} {k : Nat} {e : α} (he : l[k]? = some e) : l.take (k + 1) = l.take k ++ [e] := by
  rw [List.take_add_one, he]; rfl
theorem mem_tri {l : List UInt8} {c : UInt8} (h : c ∈ tri l) : c ∈ l := by
  unfold tri triL triR at h
  have h1 := (List.dropWhile_sublist _).subset h
  rw [List.mem_reverse] at h1
  have h2 := (List.dropWhile_sublist _).subset h1
  rwa [List.mem_reverse] at h2
theorem mem_sentP {t : List UInt8} {x : List UInt8} {c : UInt8} (hx : x ∈ sentP t) (h : c ∈ x) : c ∈ t := by
  unfold sentP keepP at hx
  obtain ⟨y, hy, rfl⟩ := List.mem_map.1 (List.mem_filter.1 hx).1
  have h1 : c ∈ (cut 0 [] t).flatten := List.mem_flatten.2 ⟨y, hy, mem_tri h⟩
  rwa [cut_flat, List.nil_append] at h1
theorem mem_joinP : ∀ {l : List (List UInt8)} {c : UInt8}, c ∈ joinP l → c = 32 ∨ ∃ x ∈ l, c ∈ x
  | [], c, h => by cases h
  | [s], c, h => .inr ⟨s, by simp, h⟩
  | s :: m :: r, c, h => by
    rcases List.mem_append.1 (show c ∈ s ++ 32 :: joinP (m :: r) from h) with h | h
    · exact .inr ⟨s, by simp, h⟩
    · rcases List.mem_cons.1 h with h | h
      · exact .inl h
      · rcases mem_joinP h with h | ⟨x, hx, h⟩
        · exact .inl h
        · exact .inr ⟨x, List.mem_cons_of_mem _ hx, h⟩
theorem text_no {t : List UInt8} (h : textB t = true) : (10 : UInt8) ∉ t := by
  intro hc
  simp only [textB, Bool.and_eq_true, List.all_eq_true] at h
  have := h.2 _ hc
  revert this; decide
theorem name_no {t : List UInt8} (h : nameB t = true) : (10 : UInt8) ∉ t := by
  intro hc
  simp only [nameB, Bool.and_eq_true, List.all_eq_true] at h
  have := h.2 _ hc
  revert this; decide
theorem kind_no {k : Int} {t : List UInt8} (h : kindT k t = true) : (10 : UInt8) ∉ t := by
  unfold kindT at h
  split at h
  · exact text_no h
  · split at h
    · exact name_no h
    · simp only [fillB, Bool.and_eq_true] at h; exact text_no h.2
theorem line_no {k : Int} {t : List UInt8} (h : (10 : UInt8) ∉ t) : (10 : UInt8) ∉ lineP k t := by
  unfold lineP
  split
  · exact h
  · split
    · intro hc
      rcases mem_joinP hc with h1 | ⟨x, hx, h1⟩
      · revert h1; decide
      · exact h (mem_sentP hx h1)
    · split
      · intro hc; simp at hc; exact h hc
      · split
        · intro hc; simp at hc; exact h hc
        · intro hc; simp at hc; exact h hc
def cntN (l : List UInt8) : Nat := l.countP (· == 10)
theorem cntN_snoc (l : List UInt8) (b : UInt8) : cntN (l ++ [b]) = cntN l + if b = 10 then 1 else 0 := by
  unfold cntN
  rw [List.countP_append]
  by_cases h : b = 10 <;> simp [h]
theorem one_cnt {b : Blk} (h : vB b = true) : cntN (oneP b) = 1 ∧ (oneP b).getLast? = some 10 := by
  simp only [vB, Bool.and_eq_true] at h
  obtain ⟨h1, _, h2, _⟩ := h
  unfold oneP
  rw [if_pos h1]
  refine ⟨?_, by simp⟩
  rw [cntN_snoc, if_pos rfl]
  have : cntN (lineP b.kd b.tx) = 0 := by
    unfold cntN
    rw [List.countP_eq_zero]
    intro c hc hq
    have : c = 10 := by simpa using hq
    subst this
    exact line_no (kind_no h2) hc
  omega
theorem plain_cnt : ∀ (l : List Blk), (∀ b ∈ l, vB b = true) → cntN (plainP l) = l.length ∧ (l ≠ [] → (plainP l).getLast? = some 10)
  | [], _ => ⟨rfl, fun h => absurd rfl h⟩
  | b :: l, h => by
    obtain ⟨h1, h2⟩ := one_cnt (h b List.mem_cons_self)
    obtain ⟨h3, h4⟩ := plain_cnt l (fun x hx => h x (List.mem_cons_of_mem _ hx))
    have e : plainP (b :: l) = oneP b ++ plainP l := rfl
    rw [e]
    refine ⟨?_, fun _ => ?_⟩
    · unfold cntN at *
      rw [List.countP_append, h1, h3, List.length_cons]; omega
    · by_cases hl : l = []
      · subst hl; simp [plainP, h2]
      · rw [List.getLast?_append, h4 hl]; rfl
set_option maxHeartbeats 8000000 in
theorem lines15 (a : Option Addr) (n c : Nat) (es : List BE) (w : World) (h : IsBlks w a n c es) :
    Calls Tryd.prog 15 #[.slice a n c] w fun x w' => x = .returned (.bool true) ∧ Below w.heap.size w w' := by
  have H := Lib.hid h
  clear h
  go_enter Tryd.func15, Tryd.ntmps15
  go_wp2_with fail
  refine (sane_any w).mono ?_
  rintro x w1 ⟨rfl, b1⟩
  have B1 := Lib.hid b1
  clear b1
  go_wp2_with fail
  refine (short_any a n c es w1 (H.out.over B1.out)).mono ?_
  rintro x w2 ⟨a', c', rfl, hi, b2⟩
  have B2 := Lib.hid (bel2 B1.out b2)
  have I1 := Lib.hid hi
  have L1 := shS_len es
  have X1 := Lib.hid (shS_tx (es := es))
  clear b2 hi B1 H
  generalize shS es = es at *
  have q1 : (plainP (blks es)).length ≤ 100000 := by
    have := plainP_len (blks es) 1000 (fun b hb => by obtain ⟨e, he, rfl⟩ := List.mem_map.1 hb; exact X1.out e he)
    have : (2 * 1000 + 3) * (blks es).length ≤ (2 * 1000 + 3) * 30 := Nat.mul_le_mul_left _ (by simp [blks]; omega)
    omega
  go_wp2_with fail
  refine (plain_any a' _ c' es w2 I1.out (by omega) X1.out).mono ?_
  rintro x w3 ⟨rfl, b3⟩
  have B3 := Lib.hid (bel2 B2.out b3)
  have I2 := Lib.hid (I1.out.over b3)
  clear b3 I1 B2
  have hz := mk_size' (plainP (blks es))
  have PC := Lib.hid (fun (hv : vL (blks es) = true) => plain_cnt (blks es) (fun b hb => by
    simp only [vL, Bool.and_eq_true, List.all_eq_true] at hv
    exact hv.2.1 b hb))
  obtain ⟨s, hs⟩ : ∃ s : ByteArray, s = ⟨(plainP (blks es)).toArray⟩ := ⟨_, rfl⟩
  rw [← hs] at hz ⊢
  have HSd := Lib.hid (show s.data.toList = plainP (blks es) by rw [hs])
  rw [← hz] at q1
  clear hs hz
  go_wp2
  go_loopw [6, 5] (fun i v wr => ∃ k : Nat, k ≤ s.size ∧ i = .int .i64 k ∧ v = .int .i64 (cntN (s.data.toList.take k) : Nat) ∧ wr = w3) (fun i _ _ => s.size - (intOf i).toNat)
  case atStart => exact ⟨0, Nat.zero_le _, rfl, rfl, rfl⟩
  case round =>
    obtain ⟨k, hk, rfl, rfl, rfl⟩ := hrel
    by_cases hlt : k < s.size
    · have he := byte_at s k hlt
      have ht := takeE_snoc he
      have hq := cntN_snoc (s.data.toList.take k) s[k]
      rw [← ht] at hq
      have hcl : cntN (s.data.toList.take k) ≤ k := Nat.le_trans (List.countP_le_length) (by simp; omega)
      generalize hc : s[k] = cc at *
      have HQ := Lib.hid hq
      clear hq ht he
      by_cases h10 : cc = 10
      · have h10' : (cc.toNat : Int) = 10 := by rw [h10]; rfl
        rw [if_pos h10] at HQ
        clear h10
        go_wp2
        go_roundw
        case rel => exact ⟨k + 1, by omega, by go_num, by rw [HQ.out]; go_num, trivial⟩
        case measure => simp [intOf]; omega
      · have h10' : ¬ (cc.toNat : Int) = 10 := fun h => h10 (by apply UInt8.toNat_inj.1; simp; omega)
        rw [if_neg h10] at HQ
        clear h10
        go_wp2
        go_roundw
        case rel => exact ⟨k + 1, by omega, by go_num, by rw [HQ.out]; rfl, trivial⟩
        case measure => simp [intOf]; omega
    · obtain rfl : k = s.size := by omega
      have hall : s.data.toList.take s.size = s.data.toList := List.take_of_length_le (by rw [slen]; exact Nat.le_refl _)
      rw [hall]
      go_wp2_with fail
      refine (vlist_any a' _ c' es wr I2.out).mono ?_
      rintro x w4 ⟨rfl, b4⟩
      have B4 := Lib.hid (bel2 B3.out b4)
      cases hv : vL (blks es)
      · go_wp2
        go_ret
        exact ⟨rfl, B4.out⟩
      · obtain ⟨hp1, hp2⟩ := PC.out hv
        rw [← HSd.out] at hp1 hp2
        rw [hp1]
        have hbl : (blks es).length = es.length := by simp [blks]
        rw [hbl]
        cases hs0 : s.toList.isEmpty
        · have hsl : s.data.toList ≠ [] := by
            intro h; rw [ByteArray.toList_eq, h] at hs0; cases hs0
          have hbn : blks es ≠ [] := by
            intro h; rw [HSd.out, h] at hsl; exact hsl rfl
          have hlast := hp2 hbn
          have hp := List.length_pos_iff.2 hsl
          rw [slen] at hp
          obtain ⟨m, hm⟩ : ∃ m, s.size = m + 1 := ⟨s.size - 1, by omega⟩
          have hmlt : m < s.size := by omega
          have hsm : s[m] = 10 := by
            have h1 := byte_at s m hmlt
            rw [List.getLast?_eq_getElem?, slen, hm, Nat.add_sub_cancel, h1] at hlast
            exact Option.some.inj hlast
          have e2 : (((s[m].toNat : Nat) : Int) == 10) = true := by rw [hsm]; rfl
          have hw0 : IntKind.i64.wrap (m : Int) = (m : Int) := IntWalk.i64_in _ (by omega)
          have hm1 : (s.size : Int) - 1 = (m : Int) := by omega
          have hw1 : IntKind.i64.wrap ((s.size : Int) - 1) = (m : Int) := by rw [hm1]; exact hw0
          have hmr : (m : Int) < (s.size : Int) := by omega
          have hl0 : ¬ s.toList = [] := by intro h; rw [h] at hs0; cases hs0
          clear hm hp2 hlast hsl hbn hp hp1
          go_wp2
          go_ret
          exact ⟨rfl, B4.out⟩
        · have hl0 : s.toList = [] := by simpa using hs0
          go_wp2
          go_ret
          exact ⟨rfl, B4.out⟩
end Go.Proofs.YtcapfjonkcekoaaDoor
