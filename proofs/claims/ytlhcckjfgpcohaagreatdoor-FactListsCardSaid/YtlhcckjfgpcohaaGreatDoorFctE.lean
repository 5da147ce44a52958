/- Package fact: areTopics; a field's test and its clearing, for every field. -/
import Derived.Test.YtlhcckjfgpcohaaGreatDoorFctD
import Derived.Laws.Cover1
namespace Go.Proofs.YtlhcckjfgpcohaaGreatDoor
open Go.RowKit
set_option maxRecDepth 100000
set_option linter.unusedSimpArgs false
set_option linter.unusedVariables false
theorem ascT_iff : ∀ (l : List (List UInt8)), ascT l = true ↔ ∀ j s t, l[j]? = some s → l[j + 1]? = some t → Op.bytesLess s t = true
  | [] => by simp [ascT]
  | [a] => by simp [ascT]
  | a :: b :: l => by
    rw [ascT, Bool.and_eq_true, ascT_iff (b :: l)]
    constructor
    · rintro ⟨h1, h2⟩ j s t hs ht
      cases j with
      | zero =>
        simp only [List.getElem?_cons_zero, List.getElem?_cons_succ, Option.some.injEq] at hs ht
        rw [← hs, ← ht]; exact h1
      | succ j =>
        simp only [List.getElem?_cons_succ] at hs ht
        exact h2 j s t hs (by simpa using ht)
    · intro h
      exact ⟨h 0 a b rfl rfl, fun j s t hs ht => h (j + 1) s t (by simpa using hs) (by simpa using ht)⟩
def TopTo (l : List (List UInt8)) (k : Nat) : Prop := (∀ j s, j < k → l[j]? = some s → nameB s = true) ∧ ∀ j s t, j + 1 < k → l[j]? = some s → l[j + 1]? = some t → Op.bytesLess s t = true
theorem topB_of {l : List (List UInt8)} (h0 : l.length ≤ 4) (h : TopTo l l.length) : topB l = true := by
  simp only [topB, Bool.and_eq_true, decide_eq_true_eq, List.all_eq_true]
  refine ⟨h0, fun s hs => ?_, (ascT_iff l).2 fun j s t hs ht => h.2 j s t ?_ hs ht⟩
  · obtain ⟨j, hj, rfl⟩ := List.getElem_of_mem hs
    exact h.1 j _ hj (List.getElem?_eq_getElem hj)
  · exact (List.getElem?_eq_some_iff.1 ht).1
theorem topB_no1 {l : List (List UInt8)} {k : Nat} {s : List UInt8} (hs : l[k]? = some s) (h : nameB s = false) : topB l = false := by
  cases e : topB l
  · rfl
  · simp only [topB, Bool.and_eq_true, decide_eq_true_eq, List.all_eq_true] at e
    have := e.2.1 s (List.mem_of_getElem? hs)
    rw [h] at this; cases this
theorem topB_no2 {l : List (List UInt8)} {k : Nat} {s t : List UInt8} (hs : l[k]? = some s) (ht : l[k + 1]? = some t) (h : Op.bytesLess s t = false) : topB l = false := by
  cases e : topB l
  · rfl
  · simp only [topB, Bool.and_eq_true, decide_eq_true_eq, List.all_eq_true] at e
    have := (ascT_iff l).1 e.2.2 k s t hs ht
    rw [h] at this; cases this
theorem topB_no0 {l : List (List UInt8)} (h : ¬ l.length ≤ 4) : topB l = false := by
  simp [topB, h]
set_option maxHeartbeats 4000000 in
theorem topics5 (a : Option Addr) (n c : Nat) (l : List (List UInt8)) (w : World) (h : IsTp w a n c l) :
    Calls Tryz.prog 83 #[.slice a n c] w fun e w' => e = .returned (.bool (topB l)) ∧ w' = w := by
  obtain ⟨h1, h2, h3, h4, h5⟩ := h
  unfold maxLen at h3
  have HL := Lib.hid h1
  have H4 := Lib.hid h4
  have H5 := Lib.hid h5
  by_cases hn : n ≤ 4
  · have q0 : ¬ (4 : Int) < n := by omega
    clear h1 h4 h5
    go_enter Tryz.func83, Tryz.ntmps83
    go_wp2
    go_loop [10] (fun i => ∃ k : Nat, k ≤ n ∧ i = .int .i64 k ∧ Hid (TopTo l k)) (fun i => n - (intOf i).toNat)
    case atStart => exact ⟨0, Nat.zero_le _, rfl, Lib.hid ⟨fun j s hj => absurd hj (Nat.not_lt_zero _), fun j s t hj => absurd hj (by omega)⟩⟩
    case round =>
      obtain ⟨k, hk, rfl, ht⟩ := hrel
      by_cases hlt : k < n
      · obtain ⟨s, hs⟩ : ∃ s, l[k]? = some s := ⟨l[k]'(by rw [HL.out]; exact hlt), List.getElem?_eq_getElem _⟩
        obtain ⟨b, off, rfl, hcell⟩ := H5.out.resolve_left (by omega)
        have hck := hcell k s hs
        have HS := Lib.hid hs
        have hsz : (⟨s.toArray⟩ : ByteArray).size ≤ maxLen := by rw [mk_size']; exact H4.out s (List.mem_of_getElem? hs)
        have KN := Lib.hid (fun W => name5 ⟨s.toArray⟩ W hsz)
        have HC := Lib.hid hcell
        clear hs hcell hsz
        simp only at KN
        generalize hR : nameB s = R at KN
        have HR := Lib.hid hR
        clear hR
        cases R
        · have HF := Lib.hid (topB_no1 HS.out HR.out)
          go_wp2_with fail
          refine (KN.out _).mono ?_
          rintro e w' ⟨rfl, rfl⟩
          go_wp2
          go_ret
          rw [HF.out]
          exact ⟨rfl, rfl⟩
        · rcases Nat.eq_zero_or_pos k with h0 | h0
          · subst h0
            have hck0 : w.cell? ⟨b, off, none⟩ = some (.string ⟨s.toArray⟩) := by simpa using hck
            have HT : Hid (TopTo l 1) := Lib.hid ⟨fun j s' hj hs' => by
              obtain rfl : j = 0 := by omega
              rw [HS.out] at hs'; obtain rfl := Option.some.inj hs'; exact HR.out, fun j s t hj => absurd hj (by omega)⟩
            go_wp2_with fail
            refine (KN.out _).mono ?_
            rintro e w' ⟨rfl, rfl⟩
            go_wp2
            go_round
            case rel => exact ⟨1, by omega, by go_num, HT⟩
            case measure => simp [intOf]; omega
          · obtain ⟨m, rfl⟩ : ∃ m, k = m + 1 := ⟨k - 1, by omega⟩
            obtain ⟨t, hst⟩ : ∃ t, l[m]? = some t := ⟨l[m]'(by rw [HL.out]; omega), List.getElem?_eq_getElem _⟩
            have hcm := HC.out m t hst
            have HST := Lib.hid hst
            have q1 : (0 : Int) < ((m + 1 : Nat) : Int) := by omega
            have e1 : (⟨s.toArray⟩ : ByteArray).toList = s := by rw [ByteArray.toList_eq]
            have e2 : (⟨t.toArray⟩ : ByteArray).toList = t := by rw [ByteArray.toList_eq]
            generalize hB : Op.bytesLess t s = Bb
            have HB := Lib.hid hB
            have q2 : Op.bytesLess (⟨t.toArray⟩ : ByteArray).toList (⟨s.toArray⟩ : ByteArray).toList = Bb := by rw [e1, e2, hB]
            have q3 : Op.bytesLess t s = Bb := hB
            clear hst hB e1 e2
            cases Bb
            · have HF := Lib.hid (topB_no2 HST.out HS.out HB.out)
              go_wp2_with fail
              refine (KN.out _).mono ?_
              rintro e w' ⟨rfl, rfl⟩
              go_wp2
              go_ret
              rw [HF.out]
              exact ⟨rfl, rfl⟩
            · have HT : Hid (TopTo l (m + 1 + 1)) := Lib.hid ⟨fun j s' hj hs' => by
                by_cases e : j = m + 1
                · subst e; rw [HS.out] at hs'; obtain rfl := Option.some.inj hs'; exact HR.out
                · exact ht.out.1 j s' (by omega) hs', fun j s' t' hj hs' ht' => by
                by_cases e : j = m
                · subst e
                  rw [HST.out] at hs'; obtain rfl := Option.some.inj hs'
                  rw [HS.out] at ht'; obtain rfl := Option.some.inj ht'
                  exact HB.out
                · exact ht.out.2 j s' t' (by omega) hs' ht'⟩
              go_wp2_with fail
              refine (KN.out _).mono ?_
              rintro e w' ⟨rfl, rfl⟩
              go_wp2
              go_round
              case rel => exact ⟨m + 1 + 1, by omega, by go_num, HT⟩
              case measure => simp [intOf]; omega
      · obtain rfl : n = k := by omega
        have HF := Lib.hid (topB_of (l := l) (by rw [HL.out]; exact hn) (by rw [HL.out]; exact ht.out))
        go_wp2
        go_ret
        rw [HF.out]
        exact ⟨rfl, rfl⟩
  · have HF := Lib.hid (topB_no0 (l := l) (by rw [h1]; exact hn))
    have q0 : (4 : Int) < n := by omega
    clear h1 h4 h5
    go_enter Tryz.func83, Tryz.ntmps83
    go_wp2
    go_ret
    rw [HF.out]
    exact ⟨rfl, rfl⟩
end Go.Proofs.YtlhcckjfgpcohaaGreatDoor
