/- Package fact: the closures of a field. -/
import Derived.Test.YtlhcckjfgpcohaaGreatDoorFctB
import Derived.Laws.EntriesVeiled
import Derived.OneCell
namespace Go.Proofs.YtlhcckjfgpcohaaGreatDoor
open Go.RowKit
set_option maxRecDepth 100000
set_option linter.unusedSimpArgs false
set_option linter.unusedVariables false
/-- A block's type is none of those that a coder writes. -/
abbrev TyOk (t : Nat) : Prop := t ≠ 5 ∧ t ≠ 56 ∧ t ≠ 72
/-- A variable of one cell. -/
def Blk1 (W : World) (g : Nat) (v : Value) : Prop := ∃ t : {t : Nat // TyOk t}, W.heap[g]? = some (.cells #[v] t.1 (0, 0))
theorem blk1_of {W : World} {g : Nat} {v : Value} {t : Nat} (ht : TyOk t) (h : W.heap[g]? = some (.cells #[v] t (0, 0))) : Blk1 W g v := ⟨⟨t, ht⟩, h⟩
theorem Blk1.over {W W' : World} {g : Nat} {v : Value} (hb : Below W.heap.size W W') (h : Blk1 W g v) : Blk1 W' g v := by
  obtain ⟨t, h⟩ := h
  exact ⟨t, blockOver hb h⟩
theorem Blk1.cell {W : World} {g : Nat} {v : Value} (h : Blk1 W g v) : W.cell? ⟨g, 0, none⟩ = some v := by
  obtain ⟨t, h⟩ := h
  rw [Joins.cell_of_block h]; rfl
abbrev pt (g : Nat) : Value := .pointer (some ⟨g, 0, none⟩)
set_option maxHeartbeats 1000000 in
theorem fieldAt_0 (p : Nat) (cf vf : Fn) (vc : Array Value) (w : World) :
    Calls Tryz.prog 63 #[.func (.func p) #[] #[], .func cf #[] #[], .func vf #[] vc] w fun e w' => ∃ g3 g4 g5,
      e = .returned (.agg #[.func (.func 89) #[] #[pt g4, pt g3], .func (.func 90) #[] #[pt g5, pt g3], .func (.func 91) #[] #[pt g3]]) ∧
      Blk1 w' g3 (.func (.func p) #[] #[]) ∧ Blk1 w' g4 (.func cf #[] #[]) ∧ Blk1 w' g5 (.func vf #[] vc) ∧ Below w.heap.size w w' := by
  have H := Lib.hid (allocs_get w [.cells #[.func (.func p) #[] #[]] 84 (0, 0), .cells #[.func cf #[] #[]] 102 (0, 0), .cells #[.func vf #[] vc] 105 (0, 0), .cells #[.func (.func 89) #[] #[pt (w.heap.size + 1), pt w.heap.size], .func (.func 90) #[] #[pt (w.heap.size + 1 + 1), pt w.heap.size], .func (.func 91) #[] #[pt w.heap.size]] 67 (0, 0)])
  have HB := Lib.hid (allocs_below w [.cells #[.func (.func p) #[] #[]] 84 (0, 0), .cells #[.func cf #[] #[]] 102 (0, 0), .cells #[.func vf #[] vc] 105 (0, 0), .cells #[.func (.func 89) #[] #[pt (w.heap.size + 1), pt w.heap.size], .func (.func 90) #[] #[pt (w.heap.size + 1 + 1), pt w.heap.size], .func (.func 91) #[] #[pt w.heap.size]] 67 (0, 0)] w (Below.refl _ _))
  go_enter Tryz.func63, Tryz.ntmps63
  go_wp2
  refine bodyPost_ret (v := .agg #[.func (.func 89) #[] #[pt (w.heap.size + 1), pt w.heap.size], .func (.func 90) #[] #[pt (w.heap.size + 1 + 1), pt w.heap.size], .func (.func 91) #[] #[pt w.heap.size]]) (by simp [results, Tryz.results63, go_sem]) rfl ⟨w.heap.size, w.heap.size + 1, w.heap.size + 1 + 1, rfl, blk1_of (by decide) (H.out 0), blk1_of (by decide) (H.out 1), blk1_of (by decide) (H.out 2), HB.out⟩
set_option maxHeartbeats 1000000 in
theorem fieldAt_1 (p : Nat) (cf vf : Fn) (vc : Array Value) (w : World) :
    Calls Tryz.prog 66 #[.func (.func p) #[] #[], .func cf #[] #[], .func vf #[] vc] w fun e w' => ∃ g3 g4 g5,
      e = .returned (.agg #[.func (.func 92) #[] #[pt g4, pt g3], .func (.func 93) #[] #[pt g5, pt g3], .func (.func 94) #[] #[pt g3]]) ∧
      Blk1 w' g3 (.func (.func p) #[] #[]) ∧ Blk1 w' g4 (.func cf #[] #[]) ∧ Blk1 w' g5 (.func vf #[] vc) ∧ Below w.heap.size w w' := by
  have H := Lib.hid (allocs_get w [.cells #[.func (.func p) #[] #[]] 87 (0, 0), .cells #[.func cf #[] #[]] 107 (0, 0), .cells #[.func vf #[] vc] 38 (0, 0), .cells #[.func (.func 92) #[] #[pt (w.heap.size + 1), pt w.heap.size], .func (.func 93) #[] #[pt (w.heap.size + 1 + 1), pt w.heap.size], .func (.func 94) #[] #[pt w.heap.size]] 67 (0, 0)])
  have HB := Lib.hid (allocs_below w [.cells #[.func (.func p) #[] #[]] 87 (0, 0), .cells #[.func cf #[] #[]] 107 (0, 0), .cells #[.func vf #[] vc] 38 (0, 0), .cells #[.func (.func 92) #[] #[pt (w.heap.size + 1), pt w.heap.size], .func (.func 93) #[] #[pt (w.heap.size + 1 + 1), pt w.heap.size], .func (.func 94) #[] #[pt w.heap.size]] 67 (0, 0)] w (Below.refl _ _))
  go_enter Tryz.func66, Tryz.ntmps66
  go_wp2
  refine bodyPost_ret (v := .agg #[.func (.func 92) #[] #[pt (w.heap.size + 1), pt w.heap.size], .func (.func 93) #[] #[pt (w.heap.size + 1 + 1), pt w.heap.size], .func (.func 94) #[] #[pt w.heap.size]]) (by simp [results, Tryz.results66, go_sem]) rfl ⟨w.heap.size, w.heap.size + 1, w.heap.size + 1 + 1, rfl, blk1_of (by decide) (H.out 0), blk1_of (by decide) (H.out 1), blk1_of (by decide) (H.out 2), HB.out⟩
set_option maxHeartbeats 1000000 in
theorem fieldAt_2 (p : Nat) (cf vf : Fn) (vc : Array Value) (w : World) :
    Calls Tryz.prog 38 #[.func (.func p) #[] #[], .func cf #[] #[], .func vf #[] vc] w fun e w' => ∃ g3 g4 g5,
      e = .returned (.agg #[.func (.func 69) #[] #[pt g4, pt g3], .func (.func 70) #[] #[pt g5, pt g3], .func (.func 71) #[] #[pt g3]]) ∧
      Blk1 w' g3 (.func (.func p) #[] #[]) ∧ Blk1 w' g4 (.func cf #[] #[]) ∧ Blk1 w' g5 (.func vf #[] vc) ∧ Below w.heap.size w w' := by
  have H := Lib.hid (allocs_get w [.cells #[.func (.func p) #[] #[]] 90 (0, 0), .cells #[.func cf #[] #[]] 91 (0, 0), .cells #[.func vf #[] vc] 92 (0, 0), .cells #[.func (.func 69) #[] #[pt (w.heap.size + 1), pt w.heap.size], .func (.func 70) #[] #[pt (w.heap.size + 1 + 1), pt w.heap.size], .func (.func 71) #[] #[pt w.heap.size]] 67 (0, 0)])
  have HB := Lib.hid (allocs_below w [.cells #[.func (.func p) #[] #[]] 90 (0, 0), .cells #[.func cf #[] #[]] 91 (0, 0), .cells #[.func vf #[] vc] 92 (0, 0), .cells #[.func (.func 69) #[] #[pt (w.heap.size + 1), pt w.heap.size], .func (.func 70) #[] #[pt (w.heap.size + 1 + 1), pt w.heap.size], .func (.func 71) #[] #[pt w.heap.size]] 67 (0, 0)] w (Below.refl _ _))
  go_enter Tryz.func38, Tryz.ntmps38
  go_wp2
  refine bodyPost_ret (v := .agg #[.func (.func 69) #[] #[pt (w.heap.size + 1), pt w.heap.size], .func (.func 70) #[] #[pt (w.heap.size + 1 + 1), pt w.heap.size], .func (.func 71) #[] #[pt w.heap.size]]) (by simp [results, Tryz.results38, go_sem]) rfl ⟨w.heap.size, w.heap.size + 1, w.heap.size + 1 + 1, rfl, blk1_of (by decide) (H.out 0), blk1_of (by decide) (H.out 1), blk1_of (by decide) (H.out 2), HB.out⟩
set_option maxHeartbeats 1000000 in
theorem fieldAt_3 (p : Nat) (cf vf : Fn) (vc : Array Value) (w : World) :
    Calls Tryz.prog 80 #[.func (.func p) #[] #[], .func cf #[] #[], .func vf #[] vc] w fun e w' => ∃ g3 g4 g5,
      e = .returned (.agg #[.func (.func 95) #[] #[pt g4, pt g3], .func (.func 96) #[] #[pt g5, pt g3], .func (.func 97) #[] #[pt g3]]) ∧
      Blk1 w' g3 (.func (.func p) #[] #[]) ∧ Blk1 w' g4 (.func cf #[] #[]) ∧ Blk1 w' g5 (.func vf #[] vc) ∧ Below w.heap.size w w' := by
  have H := Lib.hid (allocs_get w [.cells #[.func (.func p) #[] #[]] 117 (0, 0), .cells #[.func cf #[] #[]] 118 (0, 0), .cells #[.func vf #[] vc] 119 (0, 0), .cells #[.func (.func 95) #[] #[pt (w.heap.size + 1), pt w.heap.size], .func (.func 96) #[] #[pt (w.heap.size + 1 + 1), pt w.heap.size], .func (.func 97) #[] #[pt w.heap.size]] 67 (0, 0)])
  have HB := Lib.hid (allocs_below w [.cells #[.func (.func p) #[] #[]] 117 (0, 0), .cells #[.func cf #[] #[]] 118 (0, 0), .cells #[.func vf #[] vc] 119 (0, 0), .cells #[.func (.func 95) #[] #[pt (w.heap.size + 1), pt w.heap.size], .func (.func 96) #[] #[pt (w.heap.size + 1 + 1), pt w.heap.size], .func (.func 97) #[] #[pt w.heap.size]] 67 (0, 0)] w (Below.refl _ _))
  go_enter Tryz.func80, Tryz.ntmps80
  go_wp2
  refine bodyPost_ret (v := .agg #[.func (.func 95) #[] #[pt (w.heap.size + 1), pt w.heap.size], .func (.func 96) #[] #[pt (w.heap.size + 1 + 1), pt w.heap.size], .func (.func 97) #[] #[pt w.heap.size]]) (by simp [results, Tryz.results80, go_sem]) rfl ⟨w.heap.size, w.heap.size + 1, w.heap.size + 1 + 1, rfl, blk1_of (by decide) (H.out 0), blk1_of (by decide) (H.out 1), blk1_of (by decide) (H.out 2), HB.out⟩
set_option maxHeartbeats 1000000 in
theorem fieldAt_4 (p : Nat) (cf vf : Fn) (vc : Array Value) (w : World) :
    Calls Tryz.prog 84 #[.func (.func p) #[] #[], .func cf #[] #[], .func vf #[] vc] w fun e w' => ∃ g3 g4 g5,
      e = .returned (.agg #[.func (.func 99) #[] #[pt g4, pt g3], .func (.func 100) #[] #[pt g5, pt g3], .func (.func 101) #[] #[pt g3]]) ∧
      Blk1 w' g3 (.func (.func p) #[] #[]) ∧ Blk1 w' g4 (.func cf #[] #[]) ∧ Blk1 w' g5 (.func vf #[] vc) ∧ Below w.heap.size w w' := by
  have H := Lib.hid (allocs_get w [.cells #[.func (.func p) #[] #[]] 122 (0, 0), .cells #[.func cf #[] #[]] 123 (0, 0), .cells #[.func vf #[] vc] 125 (0, 0), .cells #[.func (.func 99) #[] #[pt (w.heap.size + 1), pt w.heap.size], .func (.func 100) #[] #[pt (w.heap.size + 1 + 1), pt w.heap.size], .func (.func 101) #[] #[pt w.heap.size]] 67 (0, 0)])
  have HB := Lib.hid (allocs_below w [.cells #[.func (.func p) #[] #[]] 122 (0, 0), .cells #[.func cf #[] #[]] 123 (0, 0), .cells #[.func vf #[] vc] 125 (0, 0), .cells #[.func (.func 99) #[] #[pt (w.heap.size + 1), pt w.heap.size], .func (.func 100) #[] #[pt (w.heap.size + 1 + 1), pt w.heap.size], .func (.func 101) #[] #[pt w.heap.size]] 67 (0, 0)] w (Below.refl _ _))
  go_enter Tryz.func84, Tryz.ntmps84
  go_wp2
  refine bodyPost_ret (v := .agg #[.func (.func 99) #[] #[pt (w.heap.size + 1), pt w.heap.size], .func (.func 100) #[] #[pt (w.heap.size + 1 + 1), pt w.heap.size], .func (.func 101) #[] #[pt w.heap.size]]) (by simp [results, Tryz.results84, go_sem]) rfl ⟨w.heap.size, w.heap.size + 1, w.heap.size + 1 + 1, rfl, blk1_of (by decide) (H.out 0), blk1_of (by decide) (H.out 1), blk1_of (by decide) (H.out 2), HB.out⟩
/-- The kind of value that a field holds. -/
inductive Cls where
  | i | s | a | t | b
def Fld.cls : Fld → Cls
  | .lg => .s | .ti => .s | .au => .s | .tx => .s | .sx => .s | .nm => .s
  | .tp => .t | .bl => .b | .lb => .a
  | _ => .i
/-- What writes or reads a value of a kind. -/
def Cls.code : Cls → Fn
  | .i => .methodOf 79 "copydesk/fact.number" | .s => .methodOf 79 "copydesk/fact.text" | .b => .methodOf 79 "copydesk/fact.blocks" | .a => .func 40 | .t => .func 82
def Cls.f1 : Cls → Nat
  | .i => 89 | .s => 92 | .a => 69 | .t => 95 | .b => 99
def Cls.f2 : Cls → Nat
  | .i => 90 | .s => 93 | .a => 70 | .t => 96 | .b => 100
def Cls.f3 : Cls → Nat
  | .i => 91 | .s => 94 | .a => 71 | .t => 97 | .b => 101
/-- The least and the greatest number that a field may hold. -/
def lims : Fld → Int × Int
  | .n => (0, 500) | .tm => (0, 1000000000) | .kd => (1, 10) | .st => (1, 64) | .rv => (1, 100) | .bs => (0, 99) | .ed => (1, 5) | .bk => (1, 1000) | .se => (0, 299) | .pt => (1, 8) | .cl => (0, 3) | .un => (0, 1000000000)
  | _ => (0, 0)
/-- What tests a value that is no number. -/
def tstN : Fld → Nat
  | .ti => 51 | .tx => 51 | .sx => 52 | .tp => 83 | .bl => 86 | .lb => 41
  | _ => 37
/-- The test in a field's closure. -/
def TstAt (W : World) (x : Fld) (g : Nat) : Prop :=
  match x.cls with
  | .i => ∃ lo hi, Blk1 W g (.func (.func 64) #[] #[pt lo, pt hi]) ∧ Blk1 W lo (.int .i64 (lims x).1) ∧ Blk1 W hi (.int .i64 (lims x).2)
  | _ => Blk1 W g (.func (.func (tstN x)) #[] #[])
def isBs : Fld → Bool
  | .bs => true
  | _ => false
/-- A field: its three closures, and what they have captured. -/
def IsFld (W : World) (x : Fld) (v : Value × Value × Value) : Prop :=
  ∃ g3 g4 g5, v = (.func (.func x.cls.f1) #[] #[pt g4, pt g3], (if isBs x = true then .func (.func 77) #[] #[] else .func (.func x.cls.f2) #[] #[pt g5, pt g3]), .func (.func x.cls.f3) #[] #[pt g3]) ∧
    Blk1 W g3 (.func (.func (plN x)) #[] #[]) ∧ Blk1 W g4 (.func x.cls.code #[] #[]) ∧ TstAt W x g5
theorem TstAt.over {W W' : World} {x : Fld} {g : Nat} (hb : Below W.heap.size W W') (h : TstAt W x g) : TstAt W' x g := by
  unfold TstAt at h ⊢
  split
  · rename_i e
    rw [e] at h
    obtain ⟨lo, hi, h1, h2, h3⟩ := h
    exact ⟨lo, hi, h1.over hb, h2.over hb, h3.over hb⟩
  · rename_i e
    split at h
    · rename_i e2; exact absurd e2 e
    · exact h.over hb
theorem IsFld.over {W W' : World} {x : Fld} {v : Value × Value × Value} (hb : Below W.heap.size W W') (h : IsFld W x v) : IsFld W' x v := by
  obtain ⟨g3, g4, g5, h0, h1, h2, h3⟩ := h
  exact ⟨g3, g4, g5, h0, h1.over hb, h2.over hb, h3.over hb⟩
/-- Three cells stored. -/
def put3 (W : World) (G : Nat) (v : Value × Value × Value) : World := ((W.setCell ⟨G, 0, none⟩ v.1).setCell ⟨G, 1, none⟩ v.2.1).setCell ⟨G, 2, none⟩ v.2.2
theorem put3_block {W : World} {G : Nat} {a b c : Value} {t : TypeId} {fr : Nat × Nat} (h : W.heap[G]? = some (.cells #[a, b, c] t fr)) (v : Value × Value × Value) : (put3 W G v).heap[G]? = some (.cells #[v.1, v.2.1, v.2.2] t fr) := by
  have h0 : (W.setCell ⟨G, 0, none⟩ v.1).heap[G]? = some (.cells #[v.1, b, c] t fr) := Joins.block_setCell h _
  have h1 : ((W.setCell ⟨G, 0, none⟩ v.1).setCell ⟨G, 1, none⟩ v.2.1).heap[G]? = some (.cells #[v.1, v.2.1, c] t fr) := Joins.block_setCell h0 _
  exact Joins.block_setCell h1 _
theorem put3_other {W : World} {G g : Nat} (hne : g ≠ G) (v : Value × Value × Value) : (put3 W G v).heap[g]? = W.heap[g]? := by
  unfold put3
  rw [Below.heap_setCell _ _ _ _ (by exact hne), Below.heap_setCell _ _ _ _ (by exact hne), Below.heap_setCell _ _ _ _ (by exact hne)]
theorem Blk1.put3 {W : World} {G g : Nat} {x : Value} (h : Blk1 W g x) (hne : g ≠ G) (v : Value × Value × Value) : Blk1 (put3 W G v) g x := by
  obtain ⟨t, h⟩ := h
  exact ⟨t, (put3_other hne v).trans h⟩
theorem put3_below {B : Nat} {w0 W : World} {G : Nat} (h : Below B w0 W) (hG : B ≤ G) (v : Value × Value × Value) : Below B w0 (Go.Proofs.YtlhcckjfgpcohaaGreatDoor.put3 W G v) :=
  ((h.setCell (p := ⟨G, 0, none⟩) hG _).setCell (p := ⟨G, 1, none⟩) hG _).setCell (p := ⟨G, 2, none⟩) hG _
def agg3 (v : Value × Value × Value) : Value := .agg #[v.1, v.2.1, v.2.2]
set_option maxHeartbeats 1000000 in
theorem number_raw (p : Nat) (lo hi : Int) (w : World) :
    Calls Tryz.prog 33 #[.func (.func p) #[] #[], .int .i64 lo, .int .i64 hi] w fun e w' => ∃ g3 g4 g5 gl gh,
      e = .returned (.agg #[.func (.func 89) #[] #[pt g4, pt g3], .func (.func 90) #[] #[pt g5, pt g3], .func (.func 91) #[] #[pt g3]]) ∧
      Blk1 w' g3 (.func (.func p) #[] #[]) ∧ Blk1 w' g4 (.func Cls.i.code #[] #[]) ∧ Blk1 w' g5 (.func (.func 64) #[] #[pt gl, pt gh]) ∧ Blk1 w' gl (.int .i64 lo) ∧ Blk1 w' gh (.int .i64 hi) ∧ Below w.heap.size w w' := by
  have H := Lib.hid (allocs_get w [.cells #[.int .i64 lo] 3 (0, 0), .cells #[.int .i64 hi] 3 (0, 0), .cells #[.nilFunc, .nilFunc, .nilFunc] 67 (0, 0)])
  have HB := Lib.hid (allocs_below w [.cells #[.int .i64 lo] 3 (0, 0), .cells #[.int .i64 hi] 3 (0, 0), .cells #[.nilFunc, .nilFunc, .nilFunc] 67 (0, 0)] w (Below.refl _ _))
  have K := Lib.hid (fieldAt_0 p Cls.i.code (.func 64) #[pt w.heap.size, pt (w.heap.size + 1)] (allocs w [.cells #[.int .i64 lo] 3 (0, 0), .cells #[.int .i64 hi] 3 (0, 0), .cells #[.nilFunc, .nilFunc, .nilFunc] 67 (0, 0)]))
  go_enter Tryz.func33, Tryz.ntmps33
  go_wp2_with fail
  refine K.out.mono ?_
  rintro e w1 ⟨g3, g4, g5, rfl, b3, b4, b5, bb⟩
  have G2 := Lib.hid (blockOver bb (H.out 2))
  have N3 := Lib.hid b3
  have N4 := Lib.hid b4
  have N5 := Lib.hid b5
  have N6 := Lib.hid (Blk1.over bb (blk1_of (by decide) (H.out 0)))
  have N7 := Lib.hid (Blk1.over bb (blk1_of (by decide) (H.out 1)))
  have HB1 := Lib.hid (HB.out.trans (bb.mono HB.out.size))
  have z3 : g3 ≠ w.heap.size + 1 + 1 := by obtain ⟨t, ht⟩ := b3; rintro rfl; have := G2.out; rw [ht] at this; simp at this
  have z4 : g4 ≠ w.heap.size + 1 + 1 := by obtain ⟨t, ht⟩ := b4; rintro rfl; have := G2.out; rw [ht] at this; simp at this
  have z5 : g5 ≠ w.heap.size + 1 + 1 := by obtain ⟨t, ht⟩ := b5; rintro rfl; have := G2.out; rw [ht] at this; simp at this
  have Z3 := Lib.hid z3
  have Z4 := Lib.hid z4
  have Z5 := Lib.hid z5
  clear b3 b4 b5 bb H HB K z3 z4 z5
  obtain ⟨c0, c1, c2⟩ := cells3 G2.out
  have f0 := Joins.unfrozen_of_block G2.out 0
  have f1 := Joins.unfrozen_of_block G2.out 1
  have f2 := Joins.unfrozen_of_block G2.out 2
  go_wp2
  refine (?_ : bodyPost _ _ _ _ _ (put3 w1 (w.heap.size + 1 + 1) (.func (.func 89) #[] #[pt g4, pt g3], .func (.func 90) #[] #[pt g5, pt g3], .func (.func 91) #[] #[pt g3])))
  clear c0 c1 c2 f0 f1 f2
  obtain ⟨c0, c1, c2⟩ := cells3 (put3_block G2.out (.func (.func 89) #[] #[pt g4, pt g3], .func (.func 90) #[] #[pt g5, pt g3], .func (.func 91) #[] #[pt g3]))
  refine bodyPost_ret (v := .agg #[.func (.func 89) #[] #[pt g4, pt g3], .func (.func 90) #[] #[pt g5, pt g3], .func (.func 91) #[] #[pt g3]]) (by simp [results, Tryz.results33, go_sem, c0, c1, c2]) rfl ⟨g3, g4, g5, w.heap.size, w.heap.size + 1, rfl, N3.out.put3 Z3.out _, N4.out.put3 Z4.out _, N5.out.put3 Z5.out _, N6.out.put3 (by omega) _, N7.out.put3 (by omega) _, put3_below HB1.out (by omega) _⟩
set_option maxHeartbeats 1000000 in
theorem text_raw (p vf : Nat) (w : World) :
    Calls Tryz.prog 35 #[.func (.func p) #[] #[], .func (.func vf) #[] #[]] w fun e w' => ∃ g3 g4 g5,
      e = .returned (.agg #[.func (.func 92) #[] #[pt g4, pt g3], .func (.func 93) #[] #[pt g5, pt g3], .func (.func 94) #[] #[pt g3]]) ∧
      Blk1 w' g3 (.func (.func p) #[] #[]) ∧ Blk1 w' g4 (.func Cls.s.code #[] #[]) ∧ Blk1 w' g5 (.func (.func vf) #[] #[]) ∧ Below w.heap.size w w' := by
  have H := Lib.hid (allocs_get w [.cells #[.nilFunc, .nilFunc, .nilFunc] 67 (0, 0)])
  have HB := Lib.hid (allocs_below w [.cells #[.nilFunc, .nilFunc, .nilFunc] 67 (0, 0)] w (Below.refl _ _))
  have K := Lib.hid (fieldAt_1 p Cls.s.code (.func vf) #[] (allocs w [.cells #[.nilFunc, .nilFunc, .nilFunc] 67 (0, 0)]))
  go_enter Tryz.func35, Tryz.ntmps35
  go_wp2_with fail
  refine K.out.mono ?_
  rintro e w1 ⟨g3, g4, g5, rfl, b3, b4, b5, bb⟩
  have G2 : Hid (w1.heap[w.heap.size]? = some (.cells #[.nilFunc, .nilFunc, .nilFunc] 67 (0, 0))) := Lib.hid (blockOver bb (H.out 0))
  have N3 := Lib.hid b3
  have N4 := Lib.hid b4
  have N5 := Lib.hid b5
  have HB1 := Lib.hid (HB.out.trans (bb.mono HB.out.size))
  have z3 : g3 ≠ w.heap.size := by obtain ⟨t, ht⟩ := b3; rintro rfl; have := G2.out; rw [ht] at this; simp at this
  have z4 : g4 ≠ w.heap.size := by obtain ⟨t, ht⟩ := b4; rintro rfl; have := G2.out; rw [ht] at this; simp at this
  have z5 : g5 ≠ w.heap.size := by obtain ⟨t, ht⟩ := b5; rintro rfl; have := G2.out; rw [ht] at this; simp at this
  have Z3 := Lib.hid z3
  have Z4 := Lib.hid z4
  have Z5 := Lib.hid z5
  clear b3 b4 b5 bb H HB K z3 z4 z5
  obtain ⟨c0, c1, c2⟩ := cells3 G2.out
  have f0 := Joins.unfrozen_of_block G2.out 0
  have f1 := Joins.unfrozen_of_block G2.out 1
  have f2 := Joins.unfrozen_of_block G2.out 2
  go_wp2
  refine (?_ : bodyPost _ _ _ _ _ (put3 w1 (w.heap.size) (.func (.func 92) #[] #[pt g4, pt g3], .func (.func 93) #[] #[pt g5, pt g3], .func (.func 94) #[] #[pt g3])))
  clear c0 c1 c2 f0 f1 f2
  obtain ⟨c0, c1, c2⟩ := cells3 (put3_block G2.out (.func (.func 92) #[] #[pt g4, pt g3], .func (.func 93) #[] #[pt g5, pt g3], .func (.func 94) #[] #[pt g3]))
  refine bodyPost_ret (v := .agg #[.func (.func 92) #[] #[pt g4, pt g3], .func (.func 93) #[] #[pt g5, pt g3], .func (.func 94) #[] #[pt g3]]) (by simp [results, Tryz.results35, go_sem, c0, c1, c2]) rfl ⟨g3, g4, g5, rfl, N3.out.put3 Z3.out _, N4.out.put3 Z4.out _, N5.out.put3 Z5.out _, put3_below HB1.out (Nat.le_refl _) _⟩
/-- A field of numbers is made. -/
theorem number_fld (x : Fld) (hx : x.cls = .i) (hb : isBs x = false) (w : World) :
    Calls Tryz.prog 33 #[.func (.func (plN x)) #[] #[], .int .i64 (lims x).1, .int .i64 (lims x).2] w fun e w' => ∃ v, e = .returned (agg3 v) ∧ IsFld w' x v ∧ Below w.heap.size w w' := by
  refine (number_raw (plN x) (lims x).1 (lims x).2 w).mono ?_
  rintro e w' ⟨g3, g4, g5, gl, gh, rfl, b3, b4, b5, b6, b7, bb⟩
  refine ⟨(.func (.func 89) #[] #[pt g4, pt g3], .func (.func 90) #[] #[pt g5, pt g3], .func (.func 91) #[] #[pt g3]), rfl, ⟨g3, g4, g5, ?_, b3, by rw [hx]; exact b4, ?_⟩, bb⟩
  · rw [hx, hb]; rfl
  · unfold TstAt; rw [hx]; exact ⟨gl, gh, b5, b6, b7⟩
/-- A field of texts is made. -/
theorem text_fld (x : Fld) (hx : x.cls = .s) (w : World) :
    Calls Tryz.prog 35 #[.func (.func (plN x)) #[] #[], .func (.func (tstN x)) #[] #[]] w fun e w' => ∃ v, e = .returned (agg3 v) ∧ IsFld w' x v ∧ Below w.heap.size w w' := by
  refine (text_raw (plN x) (tstN x) w).mono ?_
  rintro e w' ⟨g3, g4, g5, rfl, b3, b4, b5, bb⟩
  refine ⟨(.func (.func 92) #[] #[pt g4, pt g3], .func (.func 93) #[] #[pt g5, pt g3], .func (.func 94) #[] #[pt g3]), rfl, ⟨g3, g4, g5, ?_, b3, by rw [hx]; exact b4, ?_⟩, bb⟩
  · rw [hx, show isBs x = false by cases x <;> first | rfl | cases hx]; rfl
  · unfold TstAt; rw [hx]; exact b5
theorem label_fld (w : World) :
    Calls Tryz.prog 38 #[.func (.func (plN .lb)) #[] #[], .func (.func 40) #[] #[], .func (.func 41) #[] #[]] w fun e w' => ∃ v, e = .returned (agg3 v) ∧ IsFld w' .lb v ∧ Below w.heap.size w w' := by
  refine (fieldAt_2 (plN .lb) (.func 40) (.func 41) #[] w).mono ?_
  rintro e w' ⟨g3, g4, g5, rfl, b3, b4, b5, bb⟩
  exact ⟨_, rfl, ⟨g3, g4, g5, rfl, b3, b4, b5⟩, bb⟩
theorem topics_fld (w : World) :
    Calls Tryz.prog 80 #[.func (.func (plN .tp)) #[] #[], .func (.func 82) #[] #[], .func (.func 83) #[] #[]] w fun e w' => ∃ v, e = .returned (agg3 v) ∧ IsFld w' .tp v ∧ Below w.heap.size w w' := by
  refine (fieldAt_3 (plN .tp) (.func 82) (.func 83) #[] w).mono ?_
  rintro e w' ⟨g3, g4, g5, rfl, b3, b4, b5, bb⟩
  exact ⟨_, rfl, ⟨g3, g4, g5, rfl, b3, b4, b5⟩, bb⟩
theorem blocks_fld (w : World) :
    Calls Tryz.prog 84 #[.func (.func (plN .bl)) #[] #[], .func Cls.b.code #[] #[], .func (.func 86) #[] #[]] w fun e w' => ∃ v, e = .returned (agg3 v) ∧ IsFld w' .bl v ∧ Below w.heap.size w w' := by
  refine (fieldAt_4 (plN .bl) Cls.b.code (.func 86) #[] w).mono ?_
  rintro e w' ⟨g3, g4, g5, rfl, b3, b4, b5, bb⟩
  exact ⟨_, rfl, ⟨g3, g4, g5, rfl, b3, b4, b5⟩, bb⟩
end Go.Proofs.YtlhcckjfgpcohaaGreatDoor
