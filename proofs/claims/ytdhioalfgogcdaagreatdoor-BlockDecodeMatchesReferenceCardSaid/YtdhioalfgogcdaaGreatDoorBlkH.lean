import Derived.Test.YtdhioalfgogcdaaGreatDoorBlkP2
import Derived.Test.YtdhioalfgogcdaaGreatDoorBlkD4
namespace Go.Proofs.YtdhioalfgogcdaaGreatDoor
open Go.RowKit Go.MapKept
set_option maxRecDepth 100000
set_option linter.unusedSimpArgs false
set_option linter.unusedVariables false
def shB (b : Blk) : Blk := ⟨b.id, b.kd, b.tx.take 1000, b.st, b.rf, b.lb⟩
def shE (e : BE) : BE := (shB e.1, e.2)
def shS (es : List BE) : List BE := (es.take 30).map shE
theorem shE_ok {w : World} {e : BE} (h : BeOk w e) : BeOk w (shE e) := ⟨h.1, Nat.le_trans (by simp [shE, shB]; omega) h.2.1, h.2.2⟩
theorem sh_succ {es : List BE} {k : Nat} {e : BE} (h : es[k]? = some e) : (((es.take (k + 1)).map shE).flatMap elB) = ((es.take k).map shE).flatMap elB ++ elB (shE e) := by
  obtain ⟨hk, rfl⟩ := List.getElem?_eq_some_iff.1 h
  rw [List.take_succ_eq_append_getElem hk, List.map_append, List.flatMap_append]
  simp only [List.map_cons, List.map_nil, List.flatMap_cons, List.flatMap_nil, List.append_nil]
end Go.Proofs.YtdhioalfgogcdaaGreatDoor
