import Derived.Maps.OwnIn
import Derived.OwnWalk
/- A map with integer keys whose elements are kept as the values that they are. -/
namespace Go.Proofs.YtelipjjjlgnjoaaGreatDoor
open Go.ChangeMaps Go.MapKept Go.WideShapes
open Go.Maps (Keyed IsMap Tidy)
def rdV (v : Value) : Option (DataW Value × List MemPlace) := some (.held v, [])
/-- block b is a map with integer keys that holds f -/
def IsMapV (w : World) (P : Program) (k : TypeId) (b n : Nat) (f : Int → Option Value) : Prop :=
  ∃ D : DataW Value, w.ownsMap P k rdV b n D ∧ Maps.size D = n ∧ ∀ i : Int, (f i = none → Maps.has D (.int .i64 i) = false) ∧ ∀ v, f i = some v → Maps.has D (.int .i64 i) = true ∧ ∀ z, D.atKey (.int .i64 i) z = .held v
variable {P : Program} {k : TypeId} {w : World} {b n : Nat} {f : Int → Option Value}
theorem IsMapV.made (w : World) (P : Program) (k : TypeId) : IsMapV (w.alloc (.map #[] 0)) P k w.heap.size 0 (fun _ => none) :=
  ⟨_, World.ownsMap_made w P k rdV, rfl, fun i => ⟨fun _ => rfl, fun v h => by cases h⟩⟩
theorem IsMapV.lt (h : IsMapV w P k b n f) : b < w.heap.size := by obtain ⟨D, h, _⟩ := h; exact h.lt
theorem IsMapV.block (h : IsMapV w P k b n f) {w' : World} (hb : w'.heap[b]? = w.heap[b]?) : IsMapV w' P k b n f := by
  obtain ⟨D, ⟨es, clock, h1, h2⟩, r⟩ := h
  exact ⟨D, ⟨es, clock, hb.trans h1, h2⟩, r⟩
theorem IsMapV.kept {w' : World} {row : Option Nat} (h : IsMapV w P k b n f) (hg : w.grownBy w' row) (hne : some b ≠ row) : IsMapV w' P k b n f := by
  obtain ⟨D, h, r⟩ := h; exact ⟨D, h.kept hg hne, r⟩
theorem IsMapV.alloc (h : IsMapV w P k b n f) (o : Obj) : IsMapV (w.alloc o) P k b n f := by obtain ⟨D, h, r⟩ := h; exact ⟨D, h.alloc o, r⟩
theorem IsMapV.drew (h : IsMapV w P k b n f) : IsMapV w.drew P k b n f := by obtain ⟨D, h, r⟩ := h; exact ⟨D, h.drew, r⟩
theorem IsMapV.setCell (h : IsMapV w P k b n f) {a : Addr} (ha : b ≠ a.block) (u : Value) : IsMapV (w.setCell a u) P k b n f := by obtain ⟨D, h, r⟩ := h; exact ⟨D, h.setCell ha u, r⟩
theorem IsMapV.look {t e : TypeId} (h : IsMapV w P k b n f) (K : Keyed P k) (ht : P.underlying t = some (.map k e)) {z : Value} (hz : (zeroValue e).run P w = .ok z w) {i : Int} (hkey : keyOf P k (.int .i64 i) = some (.int .i64 i)) :
    (Instr.lookup t (.map (some b)) (.int .i64 i) false).run P w = .ok ((f i).getD z) w := by
  obtain ⟨D, h, -, r⟩ := h
  obtain ⟨v, ps, hrun, hv⟩ := h.lookup K ht hz (zd := .held z) (zp := []) rfl hkey
  rw [hrun]
  unfold rdV at hv
  simp only [Option.some.injEq, Prod.mk.injEq] at hv
  cases hf : f i with
  | none =>
    rw [Maps.atKey_of_not_has ((r i).1 hf)] at hv
    simp only [Option.getD_none]
    have := hv.1; cases this; rfl
  | some x =>
    rw [((r i).2 x hf).2] at hv
    simp only [Option.getD_some]
    have := hv.1; cases this; rfl
theorem IsMapV.look_ok {t e : TypeId} (h : IsMapV w P k b n f) (K : Keyed P k) (ht : P.underlying t = some (.map k e)) {z : Value} (hz : (zeroValue e).run P w = .ok z w) {i : Int} (hkey : keyOf P k (.int .i64 i) = some (.int .i64 i)) :
    (Instr.lookup t (.map (some b)) (.int .i64 i) true).run P w = .ok (.tuple #[(f i).getD z, .bool (f i).isSome]) w := by
  obtain ⟨D, h, -, r⟩ := h
  obtain ⟨v, ps, hrun, hv⟩ := h.look_ok K ht hz (zd := .held z) (zp := []) rfl hkey
  rw [hrun]
  unfold rdV at hv
  simp only [Option.some.injEq, Prod.mk.injEq] at hv
  cases hf : f i with
  | none =>
    rw [Maps.atKey_of_not_has ((r i).1 hf)] at hv
    rw [(r i).1 hf]
    simp only [Option.getD_none, Option.isSome_none]
    have := hv.1; cases this; rfl
  | some x =>
    rw [((r i).2 x hf).2] at hv
    rw [((r i).2 x hf).1]
    simp only [Option.getD_some, Option.isSome_some]
    have := hv.1; cases this; rfl
theorem ownsMap_size {H : Type} {R : Value → Option (DataW H × List MemPlace)} {D : DataW H} {m : Nat} (hm : Maps.size D = m) (h : w.ownsMap P k R b n D) : w.ownsMap P k R b m D := by
  obtain ⟨es, clock, hb, F, _, rfl⟩ := h
  refine ⟨es, clock, hb, F, ?_, rfl⟩
  rw [← hm]
  simp [Maps.size, length_sorted]
theorem IsMapV.len {t e : TypeId} (h : IsMapV w P k b n f) (ht : P.underlying t = some (.map k e)) (ty : TypeId) : (Builtin.len_ #[t] ty #[.map (some b)]).run P w = .ok (.int .i64 n) w := by
  obtain ⟨D, h, hs, _⟩ := h
  rw [← hs]; exact h.len ht ty
def putV (f : Int → Option Value) (i : Int) (v : Value) : Int → Option Value := fun j => if j = i then some v else f j
theorem IsMapV.store {t e : TypeId} (h : IsMapV w P k b n f) (K : Keyed P k) (ht : P.underlying t = some (.map k e)) (hn : n < maxLen) {i : Int} (v : Value) (hkey : keyOf P k (.int .i64 i) = some (.int .i64 i)) :
    ∃ w', (Instr.mapUpdate t (.map (some b)) (.int .i64 i) v).run P w = .ok () w' ∧ IsMapV w' P k b (if (f i).isSome = true then n else n + 1) (putV f i v) ∧ w.grownBy w' (some b) := by
  obtain ⟨D, h, hs, r⟩ := h
  have hm := h.isMap
  have hty := h.tidy K
  obtain ⟨w', hrun, h', hg⟩ := h.update K ht hn (val := v) (d := .held v) (ps := []) hkey rfl
  have hsz : Maps.size (D.put (.int .i64 i) (.held v)) = if (f i).isSome = true then n else n + 1 := by
    rw [Maps.size_put hty, hs]
    cases hf : f i with
    | none => rw [(r i).1 hf]; rfl
    | some x => rw [((r i).2 x hf).1]; rfl
  refine ⟨w', hrun, ⟨_, ownsMap_size hsz h', hsz, fun j => ?_⟩, hg⟩
  unfold putV
  by_cases e : j = i
  · subst e
    rw [if_pos rfl]
    refine ⟨fun h => by simp at h, fun x hx => ?_⟩
    cases hx
    exact ⟨Maps.has_put_same hm (K.key hkey) _, fun z => Maps.atKey_put_same hm (K.key hkey) _ z⟩
  · rw [if_neg e]
    have e2 : Lit.int .i64 j ≠ Lit.int .i64 i := by intro h; cases h; exact e rfl
    refine ⟨fun hx => ?_, fun x hx => ?_⟩
    · rw [Maps.has_put_other e2]; exact (r j).1 hx
    · rw [Maps.has_put_other e2]
      exact ⟨((r j).2 x hx).1, fun z => by rw [Maps.atKey_put_other e2]; exact ((r j).2 x hx).2 z⟩
section
variable {F : Fence} {nF : Nat} (w : World) {ops : Array Oper} {rest : List Oper} {o : Oper} {a : Act} {Q : Exit → Act → World → Prop}
theorem wpList_look_V (hg : o.guard = none) (m x : Operand) (t : TypeId) (hop : o.op = Op.lookup t m x false)
    (k e : TypeId) (K : Keyed P k) (ht : P.underlying t = some (.map k e)) (z : Value) (hz : (zeroValue e).run P w = .ok z w) (b n : Nat) (f : Int → Option Value)
    (hm : a.eval m = .map (some b)) (hown : IsMapV w P k b n f) (i : Int) (hx : a.eval x = .int .i64 i) (hkey : keyOf P k (.int .i64 i) = some (.int .i64 i))
    (hK : wpList P ops Q rest (a.put o.dst ((f i).getD z)) w) :
    wpList P ops Q (o :: rest) a w := by
  refine wpList_plain hg fun K' hK' => ?_
  have hrun := hown.look K ht hz hkey
  unfold Oper.wp
  simp [execOp, hop, hm, hx, hrun, Result.andThen]
  exact hK' _ _ hK
theorem wpList_look_V_ok (hg : o.guard = none) (m x : Operand) (t : TypeId) (hop : o.op = Op.lookup t m x true)
    (k e : TypeId) (K : Keyed P k) (ht : P.underlying t = some (.map k e)) (z : Value) (hz : (zeroValue e).run P w = .ok z w) (b n : Nat) (f : Int → Option Value)
    (hm : a.eval m = .map (some b)) (hown : IsMapV w P k b n f) (i : Int) (hx : a.eval x = .int .i64 i) (hkey : keyOf P k (.int .i64 i) = some (.int .i64 i))
    (hK : wpList P ops Q rest (a.put o.dst (.tuple #[(f i).getD z, .bool (f i).isSome])) w) :
    wpList P ops Q (o :: rest) a w := by
  refine wpList_plain hg fun K' hK' => ?_
  have hrun := hown.look_ok K ht hz hkey
  unfold Oper.wp
  simp [execOp, hop, hm, hx, hrun, Result.andThen]
  exact hK' _ _ hK
theorem wpList_store_V (hg : o.guard = none) (m x v : Operand) (t : TypeId) (hop : o.op = Op.mapUpdate t m x v)
    (k e : TypeId) (K : Keyed P k) (ht : P.underlying t = some (.map k e)) (b n : Nat) (f : Int → Option Value)
    (hm : a.eval m = .map (some b)) (hown : IsMapV w P k b n f) (hn : n < maxLen) (i : Int) (val : Value) (hx : a.eval x = .int .i64 i) (hv : a.eval v = val) (hkey : keyOf P k (.int .i64 i) = some (.int .i64 i))
    (hK : ∀ w', IsMapV w' P k b (if (f i).isSome = true then n else n + 1) (putV f i val) → w.grownBy w' (some b) → wpList P ops Q rest (a.put o.dst undef) w') :
    wpList P ops Q (o :: rest) a w := by
  refine wpList_plain hg fun K' hK' => ?_
  obtain ⟨w', hrun, r1, r2⟩ := hown.store K ht hn val hkey
  unfold Oper.wp
  simp [execOp, hop, hm, hx, hv, hrun, Result.andThen]
  exact hK' _ _ (hK w' r1 r2)
theorem wpListIn_look_V (hg : o.guard = none) (m x : Operand) (t : TypeId) (hop : o.op = Op.lookup t m x false)
    (k e : TypeId) (K : Keyed P k) (ht : P.underlying t = some (.map k e)) (z : Value) (hz : (zeroValue e).run P w = .ok z w) (b n : Nat) (f : Int → Option Value)
    (hm : a.eval m = .map (some b)) (hown : IsMapV w P k b n f) (i : Int) (hx : a.eval x = .int .i64 i) (hkey : keyOf P k (.int .i64 i) = some (.int .i64 i))
    (hK : wpListIn F nF P ops Q rest (a.put o.dst ((f i).getD z)) w) :
    wpListIn F nF P ops Q (o :: rest) a w := by
  refine wpListIn_plain hg fun K' hK' => ?_
  have hrun := hown.look K ht hz hkey
  unfold Oper.wpIn
  refine ⟨by simp [Oper.about, hop], ?_⟩
  rw [Oper.semAt_plain F _ _ (by rw [hop]; intro c hc'; cases hc')]
  simp [execOp, hop, hm, hx, hrun, Result.andThen]
  exact hK' _ _ hK
theorem wpListIn_look_V_ok (hg : o.guard = none) (m x : Operand) (t : TypeId) (hop : o.op = Op.lookup t m x true)
    (k e : TypeId) (K : Keyed P k) (ht : P.underlying t = some (.map k e)) (z : Value) (hz : (zeroValue e).run P w = .ok z w) (b n : Nat) (f : Int → Option Value)
    (hm : a.eval m = .map (some b)) (hown : IsMapV w P k b n f) (i : Int) (hx : a.eval x = .int .i64 i) (hkey : keyOf P k (.int .i64 i) = some (.int .i64 i))
    (hK : wpListIn F nF P ops Q rest (a.put o.dst (.tuple #[(f i).getD z, .bool (f i).isSome])) w) :
    wpListIn F nF P ops Q (o :: rest) a w := by
  refine wpListIn_plain hg fun K' hK' => ?_
  have hrun := hown.look_ok K ht hz hkey
  unfold Oper.wpIn
  refine ⟨by simp [Oper.about, hop], ?_⟩
  rw [Oper.semAt_plain F _ _ (by rw [hop]; intro c hc'; cases hc')]
  simp [execOp, hop, hm, hx, hrun, Result.andThen]
  exact hK' _ _ hK
theorem wpListIn_store_V (hg : o.guard = none) (m x v : Operand) (t : TypeId) (hop : o.op = Op.mapUpdate t m x v)
    (k e : TypeId) (K : Keyed P k) (ht : P.underlying t = some (.map k e)) (b n : Nat) (f : Int → Option Value)
    (hm : a.eval m = .map (some b)) (hown : IsMapV w P k b n f) (hn : n < maxLen) (i : Int) (val : Value) (hx : a.eval x = .int .i64 i) (hv : a.eval v = val) (hkey : keyOf P k (.int .i64 i) = some (.int .i64 i))
    (hK : ∀ w', IsMapV w' P k b (if (f i).isSome = true then n else n + 1) (putV f i val) → w.grownBy w' (some b) → wpListIn F nF P ops Q rest (a.put o.dst undef) w') :
    wpListIn F nF P ops Q (o :: rest) a w := by
  refine wpListIn_plain hg fun K' hK' => ?_
  obtain ⟨w', hrun, r1, r2⟩ := hown.store K ht hn val hkey
  unfold Oper.wpIn
  refine ⟨by simp [Oper.about, hop], ?_⟩
  rw [Oper.semAt_plain F _ _ (by rw [hop]; intro c hc'; cases hc')]
  simp [execOp, hop, hm, hx, hv, hrun, Result.andThen]
  exact hK' _ _ (hK w' r1 r2)
theorem wpList_len_V (hg : o.guard = none) (m : Operand) (t : TypeId) (hop : o.op = Op.call { callee := Callee.builtin Builtin.len, args := #[m], argTypes := #[t] })
    (k e : TypeId) (ht : P.underlying t = some (.map k e)) (b n : Nat) (f : Int → Option Value) (hm : a.eval m = .map (some b)) (hown : IsMapV w P k b n f)
    (hK : wpList P ops Q rest (a.put o.dst (.int .i64 n)) w) :
    wpList P ops Q (o :: rest) a w := by
  refine wpList_plain hg fun K' hK' => ?_
  unfold Oper.wp
  simp [execOp, hop, resolve, invoke, builtin, hm, hown.len ht o.type, Result.andThen]
  exact hK' _ _ hK
end
end Go.Proofs.YtelipjjjlgnjoaaGreatDoor
