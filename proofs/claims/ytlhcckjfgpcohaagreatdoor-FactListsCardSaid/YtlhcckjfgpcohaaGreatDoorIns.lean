/- Slices of integers and of strings that came in: what a walk is told of them, and how they are opened. -/
import Derived.ChangeSlices
import Derived.SliceStrings
import Derived.WideShapes
import Derived.RowKit
namespace Go.Proofs.YtlhcckjfgpcohaaGreatDoor
open Go.ChangeShapes Go.WideShapes Go.RowKit
/-- A slice of integers, of strings, that came in: what the walk is told of it. -/
def IsInts (k : IntKind) (w : World) (a : Option Addr) (n c : Nat) (zs : List Int) : Prop :=
  zs.length = n ∧ n ≤ c ∧ c ≤ maxLen ∧ (∀ z ∈ zs, (Lit.int k z).wf = true) ∧ (n = 0 ∨ ∃ b off, a = some ⟨b, off, none⟩ ∧ ∀ i, i < n → w.cell? ⟨b, off + i, none⟩ = some (.int k (zs.getD i 0)))
def IsStrs (w : World) (a : Option Addr) (n c : Nat) (ss : List ByteArray) : Prop :=
  ss.length = n ∧ n ≤ c ∧ c ≤ maxLen ∧ (∀ s ∈ ss, s.size ≤ maxLen) ∧ (n = 0 ∨ ∃ b off, a = some ⟨b, off, none⟩ ∧ ∀ i, i < n → w.cell? ⟨b, off + i, none⟩ = some (.string (ss.getD i ByteArray.empty)))
section
variable {H : Type} {enc : TypeId × Value → H} {P : Program} {w : World} {b0 base : Nat} {spare : Nat → Bool} {held : Bool}
theorem add_at (b off i : Nat) : (⟨b, off, none⟩ : Addr).add i = ⟨b, off + i, none⟩ := by
  unfold Addr.add
  split
  · rename_i h
    subst h
    rfl
  · rfl
theorem getD_take {α : Type} (l : List α) (n i : Nat) (x : α) (h : i < n) : (l.take n).getD i x = l.getD i x := by
  simp [List.getD, h]
theorem open_intsW {r : Reach} {t e : TypeId} {k : IntKind} {v : Value} {d : DataW H} {p : List MemPlace} (ht : P.underlying t = some (.slice e)) (he : P.underlying e = some (.int k)) (hc : P.cellsOf e = 1)
    (hv : Value.okWide P w r b0 t v) (h : DataW.Trod enc P w base spare held t v d p) :
    ∃ (a : Option Addr) (n c : Nat) (zs : List Int), v = .slice a n c ∧ IsInts k w a n c zs := by
  obtain ⟨a, n, c, rfl⟩ := WideShapes.okWide_slice ht hv
  obtain ⟨fuel, hf⟩ := h
  refine ⟨a, n, c, ?_⟩
  rcases ChangeShapes.open_ints ht he hc hf with ⟨h1, _⟩ | ⟨a1, n1, c1, zs, h1, _, hn, hm, hz, _, hcell, hwf⟩
  · simp [Value.cells] at h1
    obtain ⟨rfl, rfl, rfl⟩ := h1
    exact ⟨[], rfl, rfl, Nat.le_refl _, by unfold maxLen; omega, (fun z hz => by cases hz), Or.inl rfl⟩
  · simp [Value.cells] at h1
    obtain ⟨rfl, rfl, rfl⟩ := h1
    have hle : n ≤ zs.length := by rw [hz]; split <;> omega
    refine ⟨zs.take n, rfl, by simp; omega, hn, hm, fun z h => hwf z (List.mem_of_mem_take h), ?_⟩
    rcases Nat.eq_zero_or_pos n with h0 | h0
    · exact .inl h0
    · have hs := World.cell?_spot (hcell 0 (by omega))
      obtain ⟨b, off, spot⟩ := a1
      obtain rfl : spot = none := by simpa [Addr.add] using hs
      exact .inr ⟨b, off, rfl, fun i hi => by rw [getD_take _ _ _ _ hi, ← add_at]; exact hcell i (by omega)⟩
theorem open_strsW {r : Reach} {t e : TypeId} {v : Value} {d : DataW H} {p : List MemPlace} (ht : P.underlying t = some (.slice e)) (he : P.underlying e = some .string) (hc : P.cellsOf e = 1)
    (hv : Value.okWide P w r b0 t v) (h : DataW.Trod enc P w base spare held t v d p) :
    ∃ (a : Option Addr) (n c : Nat) (ss : List ByteArray), v = .slice a n c ∧ IsStrs w a n c ss := by
  obtain ⟨a, n, c, rfl⟩ := WideShapes.okWide_slice ht hv
  obtain ⟨fuel, hf⟩ := h
  refine ⟨a, n, c, ?_⟩
  rcases ChangeShapes.open_strings ht he hc hf with ⟨h1, _⟩ | ⟨a1, n1, c1, ss, h1, _, hn, hm, hz, _, hcell, hwf⟩
  · simp [Value.cells] at h1
    obtain ⟨rfl, rfl, rfl⟩ := h1
    exact ⟨[], rfl, rfl, Nat.le_refl _, by unfold maxLen; omega, (fun z hz => by cases hz), Or.inl rfl⟩
  · simp [Value.cells] at h1
    obtain ⟨rfl, rfl, rfl⟩ := h1
    have hle : n ≤ ss.length := by rw [hz]; split <;> omega
    refine ⟨ss.take n, rfl, by simp; omega, hn, hm, fun z h => hwf z (List.mem_of_mem_take h), ?_⟩
    rcases Nat.eq_zero_or_pos n with h0 | h0
    · exact .inl h0
    · have hs := World.cell?_spot (hcell 0 (by omega))
      obtain ⟨b, off, spot⟩ := a1
      obtain rfl : spot = none := by simpa [Addr.add] using hs
      exact .inr ⟨b, off, rfl, fun i hi => by rw [getD_take _ _ _ _ hi, ← add_at]; exact hcell i (by omega)⟩
end
end Go.Proofs.YtlhcckjfgpcohaaGreatDoor
