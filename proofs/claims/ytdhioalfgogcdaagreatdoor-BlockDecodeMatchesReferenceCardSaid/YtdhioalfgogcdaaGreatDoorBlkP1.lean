import Derived.Test.YtdhioalfgogcdaaGreatDoorBlkT4
import Derived.Test.YtdhioalfgogcdaaGreatDoorShelf
import Derived.Test.YtdhioalfgogcdaaGreatDoorBlkE3
namespace Go.Proofs.YtdhioalfgogcdaaGreatDoor
open Go.RowKit Go.MapKept
set_option maxRecDepth 100000
set_option linter.unusedSimpArgs false
set_option linter.unusedVariables false
theorem joinP_eq : ∀ (l : List (List UInt8)), joinP l = Lib.join l [32]
  | [] => rfl
  | [s] => by rw [Lib.join_one]; rfl
  | s :: m :: r => by
    have h := joinP_eq (m :: r)
    rw [Lib.join_cons] at h ⊢
    rw [joinP, h]
    simp [Lib.joinTail]
theorem triL_len (l : List UInt8) : (triL l).length ≤ l.length := (List.dropWhile_sublist _).length_le
theorem triR_len (l : List UInt8) : (triR l).length ≤ l.length := by
  unfold triR
  rw [List.length_reverse]
  exact Nat.le_trans (List.dropWhile_sublist _).length_le (by simp)
theorem tri_len (l : List UInt8) : (tri l).length ≤ l.length := Nat.le_trans (triL_len _) (triR_len _)
theorem keepP_flat (ps : List (List UInt8)) : (keepP ps).flatten.length ≤ ps.flatten.length := by
  induction ps with
  | nil => simp [keepP]
  | cons p ps ih =>
    rw [keepP_cons]
    have := tri_len p
    split
    · simp only [List.flatten_cons, List.length_append]; omega
    · simp only [List.flatten_cons, List.length_append]; omega
theorem joinP_len : ∀ (l : List (List UInt8)), (joinP l).length ≤ l.flatten.length + l.length
  | [] => by simp [joinP]
  | [s] => by simp [joinP]
  | s :: m :: r => by
    have := joinP_len (m :: r)
    simp only [joinP, List.length_append, List.length_cons, List.flatten_cons] at this ⊢
    omega
theorem keepP_num (ps : List (List UInt8)) : (keepP ps).length ≤ (keepP ps).flatten.length := by
  have : ∀ l : List (List UInt8), (∀ s ∈ l, full s = true) → l.length ≤ l.flatten.length := by
    intro l
    induction l with
    | nil => simp
    | cons s l ih =>
      intro h
      have h1 := ih (fun x hx => h x (List.mem_cons_of_mem _ hx))
      have h2 := h s List.mem_cons_self
      have h3 : 0 < s.length := by cases s with | nil => simp [full] at h2 | cons => simp
      simp only [List.flatten_cons, List.length_append, List.length_cons]
      omega
  exact this _ (fun s hs => by unfold keepP at hs; exact (List.mem_filter.1 hs).2)
theorem flow_len (t : List UInt8) : (joinP (sentP t)).length ≤ 2 * t.length := by
  have h1 := joinP_len (sentP t)
  have h2 := keepP_flat (cut 0 [] t)
  have h3 := keepP_num (cut 0 [] t)
  rw [cut_flat, List.nil_append] at h2
  unfold sentP at *
  omega
def stB (l : List (List UInt8)) : List ByteArray := l.map fun s => ⟨s.toArray⟩
theorem stB_data (l : List (List UInt8)) : (stB l).map (·.data.toList) = l := by
  simp [stB, Function.comp_def]
/-- strings.Join over a row of strings that the call has made. -/
theorem join_any {W : World} {base : Nat} {a : Option Addr} {c : Nat} {l : List (List UInt8)} (h : W.ownsRow base 9 1 (.slice a l.length c) l.length (l.map strV)) (hl : (joinP l).length ≤ 100000000) (hn : l.length ≤ 100000000) :
    Calls Tryz.prog 85 #[.slice a l.length c, .string ⟨#[32]⟩] W fun e w' => e = .returned (.string ⟨(joinP l).toArray⟩) ∧ Below W.heap.size W w' := by
  rcases h.2 with ⟨hv, h0⟩ | ⟨g, cap, cur, hv, hg, hh, hnc, hcm, hcs, ht⟩
  · have hl0 : l = [] := List.length_eq_zero_iff.1 h0
    subst hl0
    refine (Tryz.strings_Join_none a c ⟨#[32]⟩ W).mono ?_
    rintro e w' ⟨rfl, rfl⟩
    exact ⟨rfl, Below.refl _ _⟩
  · injection hv with h1 h2 h3
    subst h1 h3
    have hlt : g < W.heap.size := (Array.getElem?_eq_some_iff.1 hh).1
    have hlen : (stB l).length = l.length := by simp [stB]
    have := Tryz.strings_Join g 0 c (stB l) ⟨#[32]⟩ W (fun j x hx => by
      have h3 : (l.map strV)[j]? = some (.string x) := by
        simp only [stB, List.getElem?_map] at hx ⊢
        cases e : l[j]? with
        | none => rw [e] at hx; cases hx
        | some y => rw [e] at hx; simp only [Option.map_some, Option.some.injEq] at hx ⊢; rw [← hx]; rfl
      rw [← ht, List.getElem?_take] at h3
      split at h3
      · rw [Joins.cell_of_block hh, Nat.zero_add]
        simpa using h3
      · simp at h3) hlt (by rw [hlen]; omega) (by rw [hlen]; exact hnc) (by rw [stB_data, ← joinP_eq]; omega)
    rw [hlen, stB_data] at this
    rw [joinP_eq]
    exact this
theorem flow_any (s : ByteArray) (w : World) (hs : s.size ≤ 1000000) :
    Calls Tryz.prog 61 #[.string s] w fun e w' => e = .returned (.string ⟨(joinP (sentP s.data.toList)).toArray⟩) ∧ Below w.heap.size w w' := by
  have K := Lib.hid (sents_any s w hs)
  have hl : Hid ((joinP (sentP s.data.toList)).length ≤ 100000000) := Lib.hid (by have := flow_len s.data.toList; rw [slen] at this; omega)
  have hn : Hid ((sentP s.data.toList).length ≤ 100000000) := Lib.hid (by
    have h2 := keepP_flat (cut 0 [] s.data.toList)
    have h3 := keepP_num (cut 0 [] s.data.toList)
    rw [cut_flat, List.nil_append, slen] at h2
    unfold sentP
    omega)
  generalize sentP s.data.toList = l at *
  go_enter Tryz.func61, Tryz.ntmps61
  go_wp2_with fail
  refine K.out.mono ?_
  rintro e w1 ⟨a, c, rfl, hown, b1⟩
  have HO := Lib.hid hown
  have HB := Lib.hid b1
  clear hown b1 K
  go_wp2_with fail
  refine (join_any HO.out hl.out hn.out).mono ?_
  rintro e w2 ⟨rfl, b2⟩
  have HB2 := Lib.hid (bel2 HB.out b2)
  go_wp2
  go_ret
  exact ⟨rfl, HB2.out⟩
end Go.Proofs.YtdhioalfgogcdaaGreatDoor
