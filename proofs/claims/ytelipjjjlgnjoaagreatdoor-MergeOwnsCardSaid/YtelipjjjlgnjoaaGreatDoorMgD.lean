import Derived.Test.YtelipjjjlgnjoaaGreatDoorMgB
namespace Go.Proofs.YtelipjjjlgnjoaaGreatDoor
open Go.RowKit Go.MapKept Go.Shelf
set_option maxRecDepth 100000
set_option linter.unusedSimpArgs false
set_option linter.unusedVariables false
set_option maxHeartbeats 1000000 in
theorem notvl_any (a : Option Addr) (n c : Nat) (es : List BE) (p : Nat) (w : World) (h : IsBlks w a n c es) (hp : w.cell? ⟨p, 0, none⟩ = some (.func (.func 18) #[] #[])) :
    Calls Tryz.prog 43 #[.slice a n c, .pointer (some ⟨p, 0, none⟩)] w fun x w' => x = .returned (.bool (!(vL (blks es)))) ∧ Below w.heap.size w w' := by
  have K := Lib.hid (vlist_any a n c es w h)
  clear h
  go_enter Tryz.func43, Tryz.ntmps43
  go_wp2_with fail
  refine K.out.mono ?_
  rintro x w1 ⟨rfl, b1⟩
  go_wp2
  go_ret
  exact ⟨rfl, b1⟩
/-- Three slices of blocks in a block of their own. -/
structure Three (w : World) (g : Nat) (a1 : Option Addr) (n1 c1 : Nat) (p : List BE) (a2 : Option Addr) (n2 c2 : Nat) (q : List BE) (a3 : Option Addr) (n3 c3 : Nat) (r : List BE) : Prop where
  hg : w.heap[g]? = some (.cells #[.slice a1 n1 c1, .slice a2 n2 c2, .slice a3 n3 c3] 22 (0, 0))
  h1 : IsBlks w a1 n1 c1 p
  h2 : IsBlks w a2 n2 c2 q
  h3 : IsBlks w a3 n3 c3 r
theorem Three.over {w w' : World} {g : Nat} {a1 : Option Addr} {n1 c1 : Nat} {p : List BE} {a2 : Option Addr} {n2 c2 : Nat} {q : List BE} {a3 : Option Addr} {n3 c3 : Nat} {r : List BE} (h : Three w g a1 n1 c1 p a2 n2 c2 q a3 n3 c3 r) (hb : Below w.heap.size w w') : Three w' g a1 n1 c1 p a2 n2 c2 q a3 n3 c3 r :=
  ⟨blockOver hb h.hg, h.h1.over hb, h.h2.over hb, h.h3.over hb⟩
section
variable (g : Nat) (a1 : Option Addr) (n1 c1 : Nat) (p : List BE) (a2 : Option Addr) (n2 c2 : Nat) (q : List BE) (a3 : Option Addr) (n3 c3 : Nat) (r : List BE)
set_option maxHeartbeats 2000000 in
theorem idxv_any (f : Nat) (w : World) (h : Three w g a1 n1 c1 p a2 n2 c2 q a3 n3 c3 r) (hp : w.cell? ⟨f, 0, none⟩ = some (.func (.func 18) #[] #[])) :
    Calls Tryz.prog 64 #[.slice (some ⟨g, 0, none⟩) 3 3, .func (.func 43) #[] #[.pointer (some ⟨f, 0, none⟩)]] w fun x w' => ∃ i : Int, x = .returned (.int .i64 i) ∧ decide (0 ≤ i) = !(v3 (blks p) (blks q) (blks r)) ∧ Below w.heap.size w w' := by
  have d0 : w.cell? ⟨g, 0, none⟩ = some (.slice a1 n1 c1) := by rw [Joins.cell_of_block h.hg]; rfl
  have d1 : w.cell? ⟨g, 1, none⟩ = some (.slice a2 n2 c2) := by rw [Joins.cell_of_block h.hg]; rfl
  have d2 : w.cell? ⟨g, 2, none⟩ = some (.slice a3 n3 c3) := by rw [Joins.cell_of_block h.hg]; rfl
  have H1 := Lib.hid h.h1
  have H2 := Lib.hid h.h2
  have H3 := Lib.hid h.h3
  have D0 := Lib.hid d0
  have D1 := Lib.hid d1
  have D2 := Lib.hid d2
  have HP := Lib.hid hp
  clear h hp d0 d1 d2
  go_enter Tryz.func64, Tryz.ntmps64
  go_wp2
  go_loopw [8, 5] (fun i _ wr => ∃ k : Nat, k ≤ 3 ∧ i = .int .i64 k ∧ Hid (1 ≤ k → vL (blks p) = true) ∧ Hid (2 ≤ k → vL (blks q) = true) ∧ Hid (3 ≤ k → vL (blks r) = true) ∧ Hid (Below w.heap.size w wr)) (fun i _ _ => 3 - (intOf i).toNat)
  case atStart => exact ⟨0, by omega, rfl, Lib.hid (fun h => by omega), Lib.hid (fun h => by omega), Lib.hid (fun h => by omega), Lib.hid (Below.refl _ _)⟩
  case round =>
    obtain ⟨k, hk, rfl, v1, v2, v3', bw⟩ := hrel
    have hk3 : k = 0 ∨ k = 1 ∨ k = 2 ∨ k = 3 := by omega
    rcases hk3 with rfl | rfl | rfl | rfl
    · have d0 := cellOver bw.out D0.out
      have K := Lib.hid (notvl_any a1 n1 c1 p f wr (H1.out.over bw.out) (cellOver bw.out HP.out))
      cases hv : vL (blks p)
      · rw [hv] at K
        have HV := Lib.hid hv
        clear hv
        go_wp2_with fail
        refine K.out.mono ?_
        rintro x w1 ⟨rfl, b1⟩
        have B1 := Lib.hid b1
        clear b1 d0
        go_wp2
        go_ret
        exact ⟨0, rfl, by simp [v3, HV.out], bel2 bw.out B1.out⟩
      · rw [hv] at K
        have HV := Lib.hid hv
        clear hv
        go_wp2_with fail
        refine K.out.mono ?_
        rintro x w1 ⟨rfl, b1⟩
        have B1 := Lib.hid b1
        clear b1 d0
        go_wp2
        exact ⟨⟨1, by omega, rfl, Lib.hid (fun _ => by first | exact HV.out | trivial), Lib.hid (fun h => by omega), Lib.hid (fun h => by omega), Lib.hid (bel2 bw.out B1.out)⟩, by simp [intOf]⟩
    · have d0 := cellOver bw.out D1.out
      have K := Lib.hid (notvl_any a2 n2 c2 q f wr (H2.out.over bw.out) (cellOver bw.out HP.out))
      cases hv : vL (blks q)
      · rw [hv] at K
        have HV := Lib.hid hv
        clear hv
        go_wp2_with fail
        refine K.out.mono ?_
        rintro x w1 ⟨rfl, b1⟩
        have B1 := Lib.hid b1
        clear b1 d0
        go_wp2
        go_ret
        exact ⟨1, rfl, by simp [v3, HV.out], bel2 bw.out B1.out⟩
      · rw [hv] at K
        have HV := Lib.hid hv
        clear hv
        go_wp2_with fail
        refine K.out.mono ?_
        rintro x w1 ⟨rfl, b1⟩
        have B1 := Lib.hid b1
        clear b1 d0
        go_wp2
        exact ⟨⟨2, by omega, rfl, Lib.hid (fun _ => v1.out (by omega)), Lib.hid (fun _ => by first | exact HV.out | trivial), Lib.hid (fun h => by omega), Lib.hid (bel2 bw.out B1.out)⟩, by simp [intOf]⟩
    · have d0 := cellOver bw.out D2.out
      have K := Lib.hid (notvl_any a3 n3 c3 r f wr (H3.out.over bw.out) (cellOver bw.out HP.out))
      cases hv : vL (blks r)
      · rw [hv] at K
        have HV := Lib.hid hv
        clear hv
        go_wp2_with fail
        refine K.out.mono ?_
        rintro x w1 ⟨rfl, b1⟩
        have B1 := Lib.hid b1
        clear b1 d0
        go_wp2
        go_ret
        exact ⟨2, rfl, by simp [v3, HV.out], bel2 bw.out B1.out⟩
      · rw [hv] at K
        have HV := Lib.hid hv
        clear hv
        go_wp2_with fail
        refine K.out.mono ?_
        rintro x w1 ⟨rfl, b1⟩
        have B1 := Lib.hid b1
        clear b1 d0
        go_wp2
        exact ⟨⟨3, by omega, rfl, Lib.hid (fun _ => v1.out (by omega)), Lib.hid (fun _ => v2.out (by omega)), Lib.hid (fun _ => by first | exact HV.out | trivial), Lib.hid (bel2 bw.out B1.out)⟩, by simp [intOf]⟩
    · go_wp2
      go_ret
      exact ⟨-1, rfl, by simp [v3, v1.out, v2.out, v3'.out], bw.out⟩
theorem contv_any (f : Nat) (w : World) (h : Three w g a1 n1 c1 p a2 n2 c2 q a3 n3 c3 r) (hp : w.cell? ⟨f, 0, none⟩ = some (.func (.func 18) #[] #[])) :
    Calls Tryz.prog 42 #[.slice (some ⟨g, 0, none⟩) 3 3, .func (.func 43) #[] #[.pointer (some ⟨f, 0, none⟩)]] w fun x w' => x = .returned (.bool (!(v3 (blks p) (blks q) (blks r)))) ∧ Below w.heap.size w w' := by
  have K := Lib.hid (idxv_any g a1 n1 c1 p a2 n2 c2 q a3 n3 c3 r f w h hp)
  clear h hp
  go_enter Tryz.func42, Tryz.ntmps42
  go_wp2_with fail
  refine K.out.mono ?_
  rintro x w1 ⟨i, rfl, hi, b1⟩
  have HI := Lib.hid hi
  clear hi
  go_wp2
  go_ret
  exact ⟨ret_bool HI.out, b1⟩
theorem areAll_any (w : World) (h : Three w g a1 n1 c1 p a2 n2 c2 q a3 n3 c3 r) :
    Calls Tryz.prog 27 #[.func (.func 18) #[] #[], .slice (some ⟨g, 0, none⟩) 3 3] w fun x w' => x = .returned (.bool (v3 (blks p) (blks q) (blks r))) ∧ Below w.heap.size w w' := by
  have B0 := below_alloc w (.cells #[.func (.func 18) #[] #[]] 32)
  have K := Lib.hid (contv_any g a1 n1 c1 p a2 n2 c2 q a3 n3 c3 r w.heap.size _ (h.over B0) (by rw [Joins.cell_of_block (heap_alloc_new w _)]; rfl))
  clear h
  go_enter Tryz.func27, Tryz.ntmps27
  go_wp2_with fail
  refine K.out.mono ?_
  rintro x w1 ⟨rfl, b1⟩
  go_wp2
  go_ret
  exact ⟨ret_bool (by simp), bel2 B0 b1⟩
end
end Go.Proofs.YtelipjjjlgnjoaaGreatDoor
