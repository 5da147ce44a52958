import Derived.Test.YtdhioalfgogcdaaGreatDoorBlkT3
import Derived.Maps.AppendAt
import Derived.RangeFuncBox
import Derived.Test.YtdhioalfgogcdaaGreatDoorBlkD2
namespace Go.Proofs.YtdhioalfgogcdaaGreatDoor
open Go.RowKit Go.MapKept Go.Shelf
attribute [local go_sem] Oper.semAt_some
set_option maxRecDepth 100000
set_option linter.unusedSimpArgs false
set_option linter.unusedVariables false
theorem parts_any (s : ByteArray) (w : World) :
    Calls Tryz.prog 24 #[.string s] w fun e w' => e = .returned (.func (.func 49) #[] #[.pointer (some ⟨w.heap.size, 0, none⟩)]) ∧ w' = w.alloc (.cells #[.string s] 9) := by
  go_enter Tryz.func24, Tryz.ntmps24
  go_wp2
  go_ret
  exact ⟨rfl, rfl⟩
/-- A piece, no longer than M bytes. -/
abbrev Pc (M : Nat) : Type := { x : List UInt8 // x.length ≤ M }
def pcs {M : Nat} (q : List (Pc M)) : List (List UInt8) := q.map (·.1)
theorem pcs_snoc {M : Nat} (q : List (Pc M)) (x : Pc M) : pcs (q ++ [x]) = pcs q ++ [x.1] := by simp [pcs]
theorem parts_stops (n : Nat) (hn : 2 ≤ n) (Bt : Nat) (s : ByteArray) (hs : s.size ≤ maxLen) (w : World) (hlt : Bt < w.heap.size) (hc : w.cell? ⟨Bt, 0, none⟩ = some (.string s)) :
    SeqStopsK Fence.wide n Tryz.prog 49 #[.pointer (some ⟨Bt, 0, none⟩)] (fun x : Pc s.size => #[Value.string ⟨x.1.toArray⟩]) (KpT Bt s) (fun ys => pcs ys = cut 0 [] s.data.toList) (fun pre => pcs pre <+: cut 0 [] s.data.toList) (s.size + 1) w := fun l J Jx W hW _ _ hY h0 => by
  refine (parts1_in n hn l Bt s hs (fun pre W => ∃ q, pcs q = pre ∧ J q W) (fun pre W => ∃ q, pcs q = pre ∧ Jx q W) ?_ W ((hW.cell (p := ⟨Bt, 0, none⟩) hlt).trans hc) ⟨[], rfl, h0⟩).mono ?_
  · rintro pre x W1 ⟨q, rfl, hJ⟩ hlen hx
    refine (hY q ⟨x, hx⟩ W1 hJ (by simpa [pcs] using hlen)).mono ?_
    rintro e W' (⟨h1, h2, h3⟩ | ⟨h1, h2⟩)
    · exact .inl ⟨h1, ⟨_, pcs_snoc q ⟨x, hx⟩, h2⟩, h3⟩
    · exact .inr ⟨h1, ⟨_, pcs_snoc q ⟨x, hx⟩, h2⟩⟩
  · rintro e W' ⟨h1, ⟨ys, h2, q, h3, h4⟩ | ⟨pre, h2, q, h3, h4⟩⟩
    · exact ⟨h1, .inl ⟨q, h3.trans h2, h4⟩⟩
    · exact ⟨h1, .inr ⟨q, (show pcs q <+: cut 0 [] s.data.toList by rw [h3]; exact h2), h4⟩⟩
theorem kpT_t {Bt : Nat} {s : ByteArray} {A B C : World} (h : KpT Bt s A B) (k : KpT Bt s B C) : KpT Bt s A C := fun hc => k (h hc)
theorem kpT_b {Bt : Nat} {s : ByteArray} {w : World} (W : World) (l : Nat) (o o' : Obj) (_ : w.heap.size ≤ l) (h : W.heap[l]? = some o) (hc : o.isCells = false) (_ : o.isWalk = false) : KpT Bt s W (W.putObj l o') := by
  intro hcell
  have hne : Bt ≠ l := by
    intro e
    subst e
    have : W.cell? ⟨Bt, 0, none⟩ = none := by
      cases o <;> simp_all [World.cell?, Obj.isCells]
    rw [this] at hcell
    cases hcell
  have hb : (W.putObj l o').heap[Bt]? = W.heap[Bt]? := World.putObj_heap_other hne
  rw [World.cell?_of_block (a := ⟨Bt, 0, none⟩) hb]
  exact hcell
theorem strInfo : (Tryz.prog.info? 9).map (fun i => (i.zero, i.size, i.bytes)) = some (some (.string ⟨#[]⟩), 1, 16) := by kernel_rfl
def strV (l : List UInt8) : Value := .string ⟨l.toArray⟩
theorem keepP_snoc (ps : List (List UInt8)) (x : List UInt8) : keepP (ps ++ [x]) = if tri x = [] then keepP ps else keepP ps ++ [tri x] := by
  unfold keepP
  rw [List.map_append, List.filter_append]
  by_cases h : tri x = []
  · rw [if_pos h]; simp [h, full]
  · rw [if_neg h]
    have : full (tri x) = true := by cases e : tri x with | nil => exact absurd e h | cons a l => rfl
    simp [this]
theorem keepP_len (ps : List (List UInt8)) : (keepP ps).length ≤ ps.length := by
  unfold keepP
  exact Nat.le_trans (List.length_filter_le _ _) (by simp)
theorem kpT_below {Bt : Nat} {s : ByteArray} {W W' : World} (hb : Below W.heap.size W W') : KpT Bt s W W' := fun h => cellOver hb h
set_option maxHeartbeats 8000000 in
theorem sents_any (s : ByteArray) (w : World) (hs : s.size ≤ 1000000) :
    Calls Tryz.prog 9 #[.string s] w fun e w' => ∃ a c, e = .returned (.slice a (sentP s.data.toList).length c) ∧ w'.ownsRow w.heap.size 9 1 (.slice a (sentP s.data.toList).length c) (sentP s.data.toList).length ((sentP s.data.toList).map strV) ∧ Below w.heap.size w w' := by
  refine (callsIn_wide (n := 8)).1 ?_
  refine callsIn_of_wp_marks Tryz.func9 rfl trivial ?_ rfl
  simp only [Tryz.ntmps9, List.size_toArray, List.length_cons, List.length_nil, Nat.reduceAdd, Nat.reduceSub, Array.replicate_succ, Array.replicate_zero, List.push_toArray, List.append_toArray, List.nil_append, List.cons_append]
  gi_wp2_with (refine ⟨trivial, ?_⟩; gi_at_call 24; refine (callsIn_wide.2 (parts_any s _)).mono ?_; rintro e w' ⟨rfl, rfl⟩)
  obtain ⟨i0, hi, hz0, hz1, hz2⟩ := info_parts strInfo
  have hsm : s.size ≤ maxLen := by unfold maxLen; omega
  have hcT : ((w.alloc (.cells #[.slice none 0 0] 36)).alloc (.cells #[.string s] 9)).cell? ⟨w.heap.size + 1, 0, none⟩ = some (.string s) := by simp
  have hsz0 : ((w.alloc (.cells #[.slice none 0 0] 36)).alloc (.cells #[.string s] 9)).heap.size = w.heap.size + 1 + 1 := by simp
  refine wpIn_rangeFunc_ownF rfl (by omega) (gf := 49) (lb := #[.pointer (some ⟨w.heap.size + 1, 0, none⟩)]) rfl trivial (enters_of Tryz.func49 (by kernel_rfl) rfl)
    (parts_stops 7 (by omega) (w.heap.size + 1) s hsm _ (by rw [hsz0]; omega) hcT) kpT_t kpT_b (Below.refl _ _) (fun _ => rfl)
    (fun pre W => (∃ v, Boxed W w.heap.size 36 v ∧ W.ownsRow (w.heap.size + 1 + 1) 9 1 v (keepP (pcs pre)).length ((keepP (pcs pre)).map strV) ∧ w.heap.size + 1 + 1 ≤ W.heap.size) ∧ Below w.heap.size w W)
    (fun _ _ _ => False)
    (OwnFrom.and (Own.from (fun p X Y row hp hg hrow => by
      obtain ⟨v, h1, h2, h3⟩ := hp
      obtain ⟨v', g1, g2, -⟩ := holdsRow_own (w.heap.size + 1 + 1) w.heap.size 36 9 1 (fun pre : List (Pc s.size) => (keepP (pcs pre)).length) (fun pre => (keepP (pcs pre)).map strV) (fun _ _ => True) p X Y row ⟨v, h1, h2, trivial⟩ hg hrow
      exact ⟨v', g1, g2, Nat.le_trans h3 hg.size⟩) _) (ownFrom_below (Nat.le_refl _) (by simp; omega)))
    (fun _ _ _ _ _ hs _ _ => hs)
    ⟨⟨.slice none 0 0, (Boxed.new w 36 _).alloc _, World.ownsRow_nil _ _ _ _, by simp⟩, ((Below.refl _ w).alloc (Nat.le_refl _) _).alloc (by simp) _⟩
    (fun x => { tmps := #[.string s, undef, .slice none 0 0, .pointer (some ⟨w.heap.size, 0, none⟩), .string ⟨x.1.toArray⟩, undef, .string s, .func (.func 49) #[] #[.pointer (some ⟨w.heap.size + 1, 0, none⟩)], .string ⟨x.1.toArray⟩, undef, undef, undef, undef, undef, undef, undef, undef, undef], defers := [] }) ?assign ?body ?done ?stop
  case assign =>
    intro l x W K hK
    gi_wp2
    exact hK
  case body =>
    rintro l pre ⟨x, hx⟩ W ⟨⟨v, hv, hrow, hsz2⟩, hB⟩ hlt
    obtain ⟨va, vc, rfl⟩ := own_slice hrow
    have hkl := keepP_len (pcs pre)
    have hpl : (pcs pre).length = pre.length := by simp [pcs]
    have hxs : (⟨x.toArray⟩ : ByteArray).size ≤ maxLen := by rw [mk_size']; omega
    have K := trim_any ⟨x.toArray⟩ W hxs
    have HS := keepP_snoc (pcs pre) x
    rw [show (⟨x.toArray⟩ : ByteArray).data.toList = x from rfl] at K
    have hsz := hB.size
    obtain ⟨r, hr⟩ : ∃ r : ByteArray, r = ⟨(tri x).toArray⟩ := ⟨_, rfl⟩
    have hrl : r.toList = tri x := by rw [ByteArray.toList_eq, hr]
    rw [← hr] at K
    have HK := Lib.hid K
    have HR := Lib.hid hr
    have HSS := Lib.hid HS
    have HV := Lib.hid hv
    have HRW := Lib.hid hrow
    have HBB := Lib.hid hB
    clear K hr HS hv hrow hB
    by_cases h0 : tri x = []
    · have h1 : r.toList = [] := by rw [hrl]; exact h0
      have H0 := Lib.hid h0
      clear h0 hrl
      gi_wp2_with (refine ⟨trivial, ?_⟩; gi_at_call 25; refine (CallsIn.inRound l (callsIn_wide.2 HK.out)).mono ?_; rintro e w1 ⟨rfl, b1⟩)
      refine ⟨keepsOthers_below b1, kpT_below b1, ⟨.slice va _ vc, boxed_over HV.out b1, ?_, by have := b1.size; omega⟩, HBB.out.trans (b1.mono hsz)⟩
      have hk : keepP (pcs (pre ++ [⟨x, hx⟩])) = keepP (pcs pre) := by rw [pcs_snoc, HSS.out, if_pos H0.out]
      rw [hk]
      exact own_over HRW.out b1
    · have h1 : ¬ r.toList = [] := by rw [hrl]; exact h0
      have h2 : r.toList.isEmpty = false := by simpa using h1
      have H0 := Lib.hid h0
      clear h0 hrl
      have hst : strV (tri x) = .string r := by unfold strV; rw [HR.out]
      have HST := Lib.hid hst
      clear hst
      gi_wp2_with (first | (refine ⟨trivial, ?_⟩; gi_at_call 25; refine (CallsIn.inRound l (callsIn_wide.2 HK.out)).mono ?_; rintro e w1 ⟨rfl, b1⟩; have hv1 := boxed_over HV.out b1; have hc1 := hv1.cell; have hr1 := own_over HRW.out b1; have hs1 := b1.size; have HV1 := Lib.hid hv1; have HR1 := Lib.hid hr1; have B1 := Lib.hid b1; clear hv1 hr1 b1) | (gi_at_builtin; refine wpListIn_append_own _ rfl _ _ 36 rfl (w.heap.size + 1 + 1) 9 i0 (.string ⟨#[]⟩) 1 16 Tryz.underlying36 hi hz0 hz1 hz2 rfl (by decide) _ _ _ rfl (HR1.out.alloc _) ⟨w1.heap.size, 0, none⟩ 1 1 [.string r] rfl rfl (cell_one_new _ _ _) (by simp [Value.oneCell']) (by unfold maxLen; omega) (by omega) (by have := HBB.out.size; simp; omega) ?_; intro v' w2 hown' hgrow _; obtain ⟨g', cap', rfl⟩ := ownsRow_succ hown'; obtain ⟨hv2, hv3, hr3, hk3, hb3⟩ := HV1.out.appended (n₀ := w.heap.size) (by decide) (own_mono HR1.out (by omega)) (by omega) (Nat.le_refl _) (own_mono hown' (by omega)) hgrow; have hc2 := hv2.cell; have hf2 := hv2.frozen; have HOWN := Lib.hid hown'; have HGR := Lib.hid hgrow; have HV2 := Lib.hid hv2; have HV3 := Lib.hid hv3; have HK3 := Lib.hid hk3; have HB3 := Lib.hid hb3; clear hown' hgrow hv2 hv3 hr3 hk3 hb3))
      have hrow3 := HOWN.out.kept (grownBy_setCell' w2 w.heap.size (.slice (some ⟨g', 0, none⟩) ((keepP (pcs pre)).length + 1) cap')) (.inr (HV2.out.not_row (by decide) HOWN.out).symm)
      have hk : keepP (pcs (pre ++ [⟨x, hx⟩])) = keepP (pcs pre) ++ [tri x] := by rw [pcs_snoc, HSS.out, if_neg H0.out]
      refine ⟨(keepsOthers_below B1.out).trans HK3.out, ?_, ⟨_, HV3.out, ?_, by have := HK3.out.size; omega⟩, HBB.out.trans ((B1.out.mono hsz).trans HB3.out)⟩
      · intro hcell
        have h1 := cellOver B1.out hcell
        have hl1 : w.heap.size + 1 < w1.heap.size := World.block_lt_of_cell? w1 _ h1
        have h2 : (w1.alloc (.cells #[.string r] 9)).heap[w.heap.size + 1]? = w1.heap[w.heap.size + 1]? := Below.heap_alloc _ _ _ hl1
        have h3 := HGR.out.block (w.heap.size + 1) (by simp; omega) (fun e => by have := (HR1.out.lt _ e.symm).1; omega)
        have h4 : (w2.setCell ⟨w.heap.size, 0, none⟩ (.slice (some ⟨g', 0, none⟩) ((keepP (pcs pre)).length + 1) cap')).heap[w.heap.size + 1]? = w2.heap[w.heap.size + 1]? := Below.heap_setCell _ _ _ _ (by simp)
        rw [World.cell?_of_block (a := ⟨w.heap.size + 1, 0, none⟩) (h4.trans (h3.trans h2))]
        exact h1
      · rw [hk, List.map_append, List.length_append, List.map_cons, HST.out]
        exact hrow3
  case done =>
    rintro D ys W hD hys ⟨⟨v, hv, hrow, -⟩, hB⟩ hK
    obtain ⟨va, vc, rfl⟩ := own_slice hrow
    have hc := hv.cell
    have hE : keepP (pcs ys) = sentP s.data.toList := by rw [hys]; rfl
    rw [hE] at hrow
    gi_wp2
    refine ⟨by simp, .inl ⟨_, _, rfl, run_takeDeferred hK, ?_⟩⟩
    refine ⟨_, results_tmp rfl _ _ _, va, vc, rfl, ownsRow_putObj (own_mono hrow (by omega)) _ hK rfl, ?_⟩
    exact hB.trans (belowK_b (w := w) (Nat.le_refl _) W D _ _ (by simp at hD; omega) hK rfl rfl)
  case stop =>
    rintro D c pre W _ _ h _
    exact h.elim
end Go.Proofs.YtdhioalfgogcdaaGreatDoor
