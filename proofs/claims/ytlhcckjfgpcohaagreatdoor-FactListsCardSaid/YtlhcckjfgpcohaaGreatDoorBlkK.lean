import Derived.Test.YtlhcckjfgpcohaaGreatDoorBlkW1
namespace Go.Proofs.YtlhcckjfgpcohaaGreatDoor
open Go.RowKit Go.MapKept
set_option maxRecDepth 100000
set_option linter.unusedSimpArgs false
set_option linter.unusedVariables false
def fv (n : Nat) : Value := .func (.func n) #[] #[]
def bw2 (x y : Nat) : Value := .func (.func 121) #[] #[.pointer (some ⟨x, 0, none⟩), .pointer (some ⟨y, 0, none⟩)]
def ent (k : Int) (v : Value) (b : Nat) : MapEntry := { key := .int .i64 k, val := v, born := b }
def allocs (w : World) (os : List Obj) : World := os.foldl World.alloc w
theorem alloc_get (w : World) (o : Obj) (r : Nat) (h : r < w.heap.size) : (w.alloc o).heap[r]? = w.heap[r]? := (heap_alloc w o).2 r h
theorem allocs_set (os : List Obj) : ∀ (w : World) (r : Nat) (o : Obj), r < w.heap.size → ({ allocs w os with heap := (allocs w os).heap.setIfInBounds r o } : World) = allocs { w with heap := w.heap.setIfInBounds r o } os ∧ (allocs w os).heap[r]? = w.heap[r]? := by
  induction os with
  | nil => intro w r o h; exact ⟨rfl, rfl⟩
  | cons a os ih =>
    intro w r o h
    obtain ⟨h1, h2⟩ := ih (w.alloc a) r o (by simp; omega)
    have e : ({ w.alloc a with heap := (w.alloc a).heap.setIfInBounds r o } : World) = ({ w with heap := w.heap.setIfInBounds r o } : World).alloc a := by
      show ({ w with heap := (w.heap.push a).setIfInBounds r o } : World) = { w with heap := (w.heap.setIfInBounds r o).push a }
      congr 1
      apply Array.ext_getElem?
      intro i
      simp only [Array.getElem?_setIfInBounds, Array.getElem?_push, Array.size_push, Array.size_setIfInBounds]
      by_cases hi : r = i
      · subst hi; simp [h, Nat.ne_of_lt h]; omega
      · simp [hi]
    refine ⟨?_, h2.trans (alloc_get w a r h)⟩
    show ({ allocs (w.alloc a) os with heap := (allocs (w.alloc a) os).heap.setIfInBounds r o } : World) = allocs (({ w with heap := w.heap.setIfInBounds r o } : World).alloc a) os
    rw [h1, e]
theorem alloc_over (w : World) (o o' : Obj) : ({ w.alloc o with heap := (w.alloc o).heap.setIfInBounds w.heap.size o' } : World) = w.alloc o' := by
  show ({ w with heap := (w.heap.push o).setIfInBounds w.heap.size o' } : World) = { w with heap := w.heap.push o' }
  congr 1
  apply Array.ext_getElem?
  intro i
  simp only [Array.getElem?_setIfInBounds, Array.getElem?_push, Array.size_push]
  by_cases hi : w.heap.size = i
  · simp [hi]
  · simp [hi, Ne.symm hi]
theorem find_none (k : Int) : ∀ (es : List MapEntry) (i : Nat), (∀ x ∈ es, ∃ j : Int, x.key = .int .i64 j ∧ j ≠ k) → Instr.findNow (.int .i64) (.int .i64 k) es i = some none
  | [], i, _ => rfl
  | e :: es, i, h => by
    obtain ⟨j, hj, hne⟩ := h e List.mem_cons_self
    have : (k == j) = false := by simp; omega
    unfold Instr.findNow
    rw [hj]
    simp only [Instr.sameNow, if_pos, this]
    exact find_none k es (i + 1) (fun x hx => h x (List.mem_cons_of_mem _ hx))
theorem und55 : Tryz.prog.underlying 133 = some (.map 3 131) := Tryz.underlying133
theorem ins_run (w : World) (es : List MapEntry) (clock : Nat) (os : List Obj) (k : Int) (v : Value) (hk : ∀ x ∈ es, ∃ j : Int, x.key = .int .i64 j ∧ j ≠ k) :
    (Instr.mapUpdate 133 (.map (some w.heap.size)) (.int .i64 k) v).run Tryz.prog (allocs (w.alloc (.map es.toArray clock)) os) = .ok () (allocs (w.alloc (.map (es ++ [ent k v clock]).toArray (clock + 1))) os) := by
  have hlt : w.heap.size < (w.alloc (.map es.toArray clock)).heap.size := by simp
  have hb : (allocs (w.alloc (.map es.toArray clock)) os).heap[w.heap.size]? = some (.map es.toArray clock) := (allocs_set os _ _ (.map es.toArray clock) hlt).2.trans (heap_alloc w _).1
  have hkk : IsKey (.int .i64) (.int .i64 k) := by simp [IsKey]
  simp [Instr.mapUpdate, run_underlying und55, MapKept.run_getObj_map hb, MapKept.run_checkKey Tryz.underlying3 hkk, MapKept.run_findKey Tryz.underlying3 (find_none k es 0 hk), MapKept.run_setObj_map _ hb, Result.andThen]
  rw [(allocs_set os _ _ _ hlt).1, alloc_over]
  simp [ent]
/-- The table's five entries. -/
def kindsE (g : Nat) : List MapEntry := [ent 1 (.agg #[fv 108, fv 109, fv 110]) 0, ent 2 (.agg #[fv 108, fv 109, fv 111]) 1, ent 3 (.agg #[fv 112, fv 113, bw2 (g + 1) (g + 1 + 1)]) 2, ent 4 (.agg #[fv 108, fv 109, bw2 (g + 1 + 1 + 1) (g + 1 + 1 + 1 + 1)]) 3, ent 5 (.agg #[fv 115, fv 109, bw2 (g + 1 + 1 + 1 + 1 + 1) (g + 1 + 1 + 1 + 1 + 1 + 1)]) 4]
def oneS (l : List UInt8) : Obj := .cells #[.string ⟨l.toArray⟩] 9
def kM (g n : Nat) : Obj := .map ((kindsE g).take n).toArray n
set_option maxHeartbeats 4000000 in
theorem kinds_any (w : World) : Calls Tryz.prog 104 #[] w fun e w' => e = .returned (.map (some w.heap.size)) ∧ w' = allocs (w.alloc (kM w.heap.size 5)) [oneS [34], oneS [34], oneS [91], oneS [93], oneS [35], oneS []] := by
  have hmm : ∀ (t : TypeId) (W : World), (Instr.makeMap t none).run Tryz.prog W = .ok (.map (some W.heap.size)) (W.alloc (.map #[] 0)) := fun t W => run_makeMap t W
  have i1 : (Instr.mapUpdate 133 (.map (some w.heap.size)) (.int .i64 1) (.agg #[.func (.func 108) #[] #[], .func (.func 109) #[] #[], .func (.func 110) #[] #[]])).run Tryz.prog (w.alloc (.map #[] 0)) = .ok () (w.alloc (kM w.heap.size 1)) :=
    ins_run w [] 0 [] 1 (.agg #[fv 108, fv 109, fv 110]) (by simp)
  have i2 : (Instr.mapUpdate 133 (.map (some w.heap.size)) (.int .i64 2) (.agg #[.func (.func 108) #[] #[], .func (.func 109) #[] #[], .func (.func 111) #[] #[]])).run Tryz.prog (w.alloc (kM w.heap.size 1)) = .ok () (w.alloc (kM w.heap.size 2)) :=
    ins_run w ((kindsE w.heap.size).take 1) 1 [] 2 (.agg #[fv 108, fv 109, fv 111]) (by simp [ent, kindsE])
  have i3 : (Instr.mapUpdate 133 (.map (some w.heap.size)) (.int .i64 3) (.agg #[.func (.func 112) #[] #[], .func (.func 113) #[] #[], .func (.func 121) #[] #[.pointer (some ⟨w.heap.size + 1, 0, none⟩), .pointer (some ⟨w.heap.size + 1 + 1, 0, none⟩)]])).run Tryz.prog (((w.alloc (kM w.heap.size 2)).alloc (oneS [34])).alloc (oneS [34])) = .ok () (((w.alloc (kM w.heap.size 3)).alloc (oneS [34])).alloc (oneS [34])) :=
    ins_run w ((kindsE w.heap.size).take 2) 2 [oneS [34], oneS [34]] 3 (.agg #[fv 112, fv 113, bw2 (w.heap.size + 1) (w.heap.size + 1 + 1)]) (by simp [ent, kindsE])
  have i4 : (Instr.mapUpdate 133 (.map (some w.heap.size)) (.int .i64 4) (.agg #[.func (.func 108) #[] #[], .func (.func 109) #[] #[], .func (.func 121) #[] #[.pointer (some ⟨w.heap.size + 1 + 1 + 1, 0, none⟩), .pointer (some ⟨w.heap.size + 1 + 1 + 1 + 1, 0, none⟩)]])).run Tryz.prog (((((w.alloc (kM w.heap.size 3)).alloc (oneS [34])).alloc (oneS [34])).alloc (oneS [91])).alloc (oneS [93])) = .ok () (((((w.alloc (kM w.heap.size 4)).alloc (oneS [34])).alloc (oneS [34])).alloc (oneS [91])).alloc (oneS [93])) :=
    ins_run w ((kindsE w.heap.size).take 3) 3 [oneS [34], oneS [34], oneS [91], oneS [93]] 4 (.agg #[fv 108, fv 109, bw2 (w.heap.size + 1 + 1 + 1) (w.heap.size + 1 + 1 + 1 + 1)]) (by simp [ent, kindsE])
  have i5 : (Instr.mapUpdate 133 (.map (some w.heap.size)) (.int .i64 5) (.agg #[.func (.func 115) #[] #[], .func (.func 109) #[] #[], .func (.func 121) #[] #[.pointer (some ⟨w.heap.size + 1 + 1 + 1 + 1 + 1, 0, none⟩), .pointer (some ⟨w.heap.size + 1 + 1 + 1 + 1 + 1 + 1, 0, none⟩)]])).run Tryz.prog (((((((w.alloc (kM w.heap.size 4)).alloc (oneS [34])).alloc (oneS [34])).alloc (oneS [91])).alloc (oneS [93])).alloc (oneS [35])).alloc (oneS [])) = .ok () (((((((w.alloc (kM w.heap.size 5)).alloc (oneS [34])).alloc (oneS [34])).alloc (oneS [91])).alloc (oneS [93])).alloc (oneS [35])).alloc (oneS [])) :=
    ins_run w ((kindsE w.heap.size).take 4) 4 [oneS [34], oneS [34], oneS [91], oneS [93], oneS [35], oneS []] 5 (.agg #[fv 115, fv 109, bw2 (w.heap.size + 1 + 1 + 1 + 1 + 1) (w.heap.size + 1 + 1 + 1 + 1 + 1 + 1)]) (by simp [ent, kindsE])
  simp only [oneS] at i3 i4 i5
  go_enter Tryz.func104, Tryz.ntmps104
  go_wp2_with fail
  refine (between_any _ _ _).mono ?_
  rintro e w' ⟨rfl, rfl⟩
  go_wp2_with fail
  refine (between_any _ _ _).mono ?_
  rintro e w' ⟨rfl, rfl⟩
  go_wp2_with fail
  refine (between_any _ _ _).mono ?_
  rintro e w' ⟨rfl, rfl⟩
  go_wp2
  go_ret
  exact ⟨rfl, rfl⟩
end Go.Proofs.YtlhcckjfgpcohaaGreatDoor
