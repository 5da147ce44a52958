/- A row of strings: read again later, joined by the statement's own text, and compared. -/
import Derived.Test.YtcapfjonkcekoaaDoorBlkR
import Derived.BigQuiet
namespace Go.Proofs.YtcapfjonkcekoaaDoor
open Go.RowKit Go.MapKept
set_option maxRecDepth 100000
set_option linter.unusedSimpArgs false
set_option linter.unusedVariables false
/-- A slice of strings: what it reads as. -/
def IsSs (w : World) (a : Option Addr) (c : Nat) (l : List (List UInt8)) : Prop :=
  l.length ≤ c ∧ c ≤ maxLen ∧ (l = [] ∨ ∃ b, a = some ⟨b, 0, none⟩ ∧ ∀ i s, l[i]? = some s → w.cell? ⟨b, i, none⟩ = some (strV s))
theorem IsSs.over {w w' : World} {a : Option Addr} {c : Nat} {l : List (List UInt8)} (hb : Below w.heap.size w w') (h : IsSs w a c l) : IsSs w' a c l := by
  obtain ⟨h1, h2, h3⟩ := h
  refine ⟨h1, h2, h3.imp id ?_⟩
  rintro ⟨b, rfl, hc⟩
  exact ⟨b, rfl, fun i s hs => cellOver hb (hc i s hs)⟩
theorem ss_of_own {w : World} {base : Nat} {a : Option Addr} {n c : Nat} {l : List (List UInt8)} (h : w.ownsRow base 9 1 (.slice a n c) n (l.map strV)) (hn : l.length = n) : IsSs w a c l := by
  obtain ⟨h1, h2⟩ := h
  rcases h2 with ⟨hv, h0⟩ | ⟨g, cap, cur, hv, hg, hh, hnc, hcm, hcs, ht⟩
  · cases hv
    exact ⟨by omega, by unfold maxLen; omega, .inl (List.length_eq_zero_iff.1 hn)⟩
  · cases hv
    refine ⟨by omega, hcm, .inr ⟨g, rfl, fun i s hs => ?_⟩⟩
    have hlt : i < l.length := (List.getElem?_eq_some_iff.1 hs).1
    have hx : (l.map strV)[i]? = some (strV s) := by rw [List.getElem?_map, hs]; rfl
    rw [← ht, List.getElem?_take] at hx
    split at hx
    · rw [Joins.cell_of_block hh]
      simpa using hx
    · simp at hx
theorem joinP_snoc : ∀ (l : List (List UInt8)) (s : List UInt8), joinP (l ++ [s]) = if l = [] then s else joinP l ++ 32 :: s
  | [], s => rfl
  | [a], s => by simp [joinP]
  | a :: b :: r, s => by
    have := joinP_snoc (b :: r) s
    rw [if_neg (by simp)] at this ⊢
    show a ++ 32 :: joinP (b :: r ++ [s]) = a ++ 32 :: joinP (b :: r) ++ 32 :: s
    rw [this]; simp
theorem take_snoc {α : Type} {l : List α} {k : Nat} {e : α} (he : l[k]? = some e) : l.take (k + 1) = l.take k ++ [e] := by
  rw [List.take_add_one, he]; rfl
theorem joinP_take_le (l : List (List UInt8)) : ∀ (k : Nat), (joinP (l.take k)).length ≤ (joinP l).length := by
  intro k
  have hlast : ∀ (m : List (List UInt8)) (r : List (List UInt8)), (joinP m).length ≤ (joinP (m ++ r)).length := by
    intro m r
    induction r generalizing m with
    | nil => simp
    | cons s r ih =>
      have h1 := ih (m ++ [s])
      rw [List.append_assoc] at h1
      refine Nat.le_trans ?_ h1
      rw [joinP_snoc]
      split
      · rename_i h; subst h; simp [joinP]
      · simp
  have := hlast (l.take k) (l.drop k)
  rwa [List.take_append_drop] at this
set_option maxHeartbeats 2000000 in
theorem join36_any (a : Option Addr) (c : Nat) (l : List (List UInt8)) (w : World) (h : IsSs w a c l) (hl : (joinP l).length ≤ 100000000) :
    Calls Tryd.prog 36 #[.slice a l.length c] w fun x w' => x = .returned (.string ⟨(joinP l).toArray⟩) ∧ Below w.heap.size w w' := by
  have hnc := h.1
  have hcm := h.2.1
  have H := Lib.hid h
  unfold maxLen at hcm
  clear h
  go_enter Tryd.func36, Tryd.ntmps36
  go_wp2
  go_loopw [4, 3] (fun i v wr => ∃ k : Nat, k ≤ l.length ∧ i = .int .i64 k ∧ v = .string ⟨(joinP (l.take k)).toArray⟩ ∧ Below w.heap.size w wr) (fun i _ _ => l.length - (intOf i).toNat)
  case atStart => exact ⟨0, Nat.zero_le _, rfl, rfl, Below.refl _ _⟩
  case round =>
    obtain ⟨k, hk, rfl, rfl, hb⟩ := hrel
    by_cases hlt : k < l.length
    · have he := List.getElem?_eq_getElem hlt
      obtain ⟨b, rfl, hc⟩ := (H.out.over hb).2.2.resolve_left (fun h => by rw [h] at hlt; simp at hlt)
      have hc1 := hc k _ he
      have ht := take_snoc he
      have hle1 := joinP_take_le l k
      have hle2 := joinP_take_le l (k + 1)
      have hjs := joinP_snoc (l.take k) l[k]
      rw [← ht] at hjs
      generalize hs : l[k] = s at *
      have hlt' : (k : Int) < l.length := by omega
      have hsz : (⟨(joinP (l.take k)).toArray⟩ : ByteArray).size = (joinP (l.take k)).length := mk_size' _
      have hsz2 : (⟨s.toArray⟩ : ByteArray).size = s.length := mk_size' _
      unfold strV at hc1
      cases k with
      | zero =>
        have hjs' : joinP (l.take 1) = s := by simpa using hjs
        have hle2' : s.length ≤ (joinP l).length := by rw [← hjs']; exact hle2
        clear hjs hle2 ht he hc hs
        have hj0 : (joinP []).length = 0 := rfl
        go_wp2
        go_roundw
        case rel => exact ⟨1, by omega, by go_num, by rw [hjs']; congr 1, hb⟩
        case measure => simp [intOf]; omega
      | succ k =>
        have hne : l.take (k + 1) ≠ [] := by intro h; have := congrArg List.length h; rw [List.length_take, List.length_nil] at this; omega
        rw [if_neg hne] at hjs
        have hle2' : (joinP (l.take (k + 1))).length + (s.length + 1) ≤ (joinP l).length := by
          refine Nat.le_trans ?_ hle2
          rw [hjs, List.length_append, List.length_cons]; omega
        have HJ := Lib.hid hjs
        clear hjs hle2 ht he hc hs hne
        go_wp2
        go_roundw
        case rel => exact ⟨k + 1 + 1, by omega, by go_num, by rw [HJ.out]; congr 1; exact bytes_ext (by simp), hb⟩
        case measure => simp [intOf]; omega
    · obtain rfl : k = l.length := by omega
      go_wp2
      go_ret
      exact ⟨by simp, hb⟩
set_option maxHeartbeats 2000000 in
theorem samess_any (a : Option Addr) (c : Nat) (l : List (List UInt8)) (a2 : Option Addr) (c2 : Nat) (m : List (List UInt8)) (w : World) (h : IsSs w a c l) (h2 : IsSs w a2 c2 m) :
    Calls Tryd.prog 28 #[.slice a l.length c, .slice a2 m.length c2] w fun x w' => x = .returned (.bool (decide (l = m))) ∧ Below w.heap.size w w' := by
  have hnc := h.1
  have hcm := h.2.1
  have hnc2 := h2.1
  have hcm2 := h2.2.1
  have H := Lib.hid h
  have H2 := Lib.hid h2
  unfold maxLen at hcm hcm2
  clear h h2
  go_enter Tryd.func28, Tryd.ntmps28
  by_cases hn : (l.length : Int) = m.length
  · go_wp2
    go_loopw [5] (fun i wr => ∃ k : Nat, k ≤ l.length ∧ i = .int .i64 k ∧ Hid (l.take k = m.take k) ∧ Below w.heap.size w wr) (fun i _ => l.length - (intOf i).toNat)
    case atStart => exact ⟨0, Nat.zero_le _, rfl, Lib.hid rfl, Below.refl _ _⟩
    case round =>
      obtain ⟨k, hk, rfl, hall, bw⟩ := hrel
      by_cases hlt : k < l.length
      · have hlt2 : k < m.length := by omega
        have he := List.getElem?_eq_getElem hlt
        have he2 := List.getElem?_eq_getElem hlt2
        obtain ⟨b, rfl, hc⟩ := (H.out.over bw).2.2.resolve_left (fun h => by rw [h] at hlt; simp at hlt)
        obtain ⟨b2, rfl, hc2⟩ := (H2.out.over bw).2.2.resolve_left (fun h => by rw [h] at hlt2; simp at hlt2)
        have hc1 := hc k _ he
        have hc3 := hc2 k _ he2
        generalize hs : l[k] = s at *
        generalize hs2 : m[k] = t at *
        unfold strV at hc1 hc3
        have hlt' : (k : Int) < l.length := by omega
        have hlt2' : (k : Int) < m.length := by omega
        have HE := Lib.hid he
        have HE2 := Lib.hid he2
        clear hc hc2 hs hs2 he he2
        by_cases hst : s = t
        · subst hst
          go_wp2
          go_quiet (fail)
          go_wp2
          go_roundw
          case rel => exact ⟨k + 1, by omega, by go_num, Lib.hid (by rw [take_snoc HE.out, take_snoc HE2.out, hall.out]), below_drewN bw _⟩
          case measure => simp [intOf]; omega
        · have hne : ¬ (⟨s.toArray⟩ : ByteArray) = ⟨t.toArray⟩ := fun h => hst (by have := congrArg (·.data.toList) h; simpa using this)
          go_wp2
          go_quiet (fail)
          have hst' : (s == t) = false := by simpa using hst
          rw [hst']
          go_wp2
          go_ret
          have : ¬ l = m := fun h => hst (by
            have h1 := HE.out
            rw [h, HE2.out] at h1
            exact (Option.some.inj h1).symm)
          exact ⟨by simp [this], below_drewN bw _⟩
      · obtain rfl : k = l.length := by omega
        go_wp2
        go_ret
        have : l = m := by
          have := hall.out
          rwa [List.take_length, List.take_of_length_le (by omega)] at this
        exact ⟨by simp [this], bw⟩
  · go_wp2
    go_ret
    have : ¬ l = m := fun h => hn (by rw [h])
    exact ⟨by simp [this], Below.refl _ _⟩
end Go.Proofs.YtcapfjonkcekoaaDoor
