/- A block by value as an argument. -/
import Derived.Test.YtcapfjonkcekoaaDoorBlkF
namespace Go.Proofs.YtcapfjonkcekoaaDoor
open Go.ChangeShapes Go.WideShapes Go.ChangeAt Go.RowKit Go.Deep
set_option maxRecDepth 100000
set_option linter.unusedVariables false
variable {H : Type} {enc : TypeId × Value → H} {w : World} {b0 base : Nat} {spare : Nat → Bool} {held : Bool}
theorem open_blk {r : Reach} {v : Value} {d : DataW H} {p : List MemPlace} (hv : Value.okWide Tryd.prog w r b0 26 v) (h : DataW.Trod enc Tryd.prog w base spare held 26 v d p) :
    ∃ (b : Blk) (a : Option Addr) (n c : Nat), v = blkV b a n c ∧ LabAt w a n c b.lb ∧ b.tx.length ≤ maxLen := by
  have hv' := hv
  simp only [Value.okWide, Tryd.underlying26] at hv'
  obtain ⟨cs, rfl, hsz, _⟩ := hv'
  obtain ⟨fuel, hf⟩ := h
  obtain ⟨e, he, hok⟩ := open_blockC hf
  refine ⟨e.1, e.2.1, e.2.2.1, e.2.2.2, ?_, hok.1, hok.2.1⟩
  have : cs = (elB e).toArray := by
    have h1 : cs.toList = elB e := by simpa [Value.cells] using he
    rw [← h1]
  rw [this]; rfl
end Go.Proofs.YtcapfjonkcekoaaDoor
