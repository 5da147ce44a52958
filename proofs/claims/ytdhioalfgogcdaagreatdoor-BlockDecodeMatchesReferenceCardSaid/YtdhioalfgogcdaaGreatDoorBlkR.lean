/- What the statements' walks share. -/
import Derived.Test.YtdhioalfgogcdaaGreatDoorBlkH
import Derived.Test.YtdhioalfgogcdaaGreatDoorBlkSane
namespace Go.Proofs.YtdhioalfgogcdaaGreatDoor
open Go.RowKit Go.MapKept
set_option maxRecDepth 100000
set_option linter.unusedSimpArgs false
set_option linter.unusedVariables false
theorem shS_len (es : List BE) : (shS es).length ≤ 30 := by unfold shS; simp; omega
theorem shS_tx {es : List BE} : ∀ e ∈ shS es, e.1.tx.length ≤ 1000 := by
  intro e he
  obtain ⟨e', _, rfl⟩ := List.mem_map.1 he
  simp [shE, shB]; omega
theorem encR_err (l : List Blk) : ((encR l).2 = 0 ∧ vL l = true ∧ (encR l).1 = encL l) ∨ ((encR l).2 = 30 ∧ vL l = false ∧ (encR l).1 = []) := by
  unfold encR
  cases h : vL l
  · right; simp
  · left; simp
theorem encL_len {l : List Blk} (h : vL l = true) : (encL l).length ≤ 100000000 := by
  unfold encL
  rw [List.length_append]
  have h1 := encInt_len (l.length : Int)
  simp only [vL, Bool.and_eq_true, List.all_eq_true, decide_eq_true_eq] at h
  have h2 := encs_len l h.2.1
  have h3 := h.1
  have : l.length * 1200 ≤ 24 * 1200 := Nat.mul_le_mul_right _ h3
  omega
end Go.Proofs.YtdhioalfgogcdaaGreatDoor
