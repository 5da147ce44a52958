/- BlockSentencesShape: the walk of the statement's text. -/
import Derived.Test.YtcapfjonkcekoaaDoorBlkQ
import Derived.BigQuiet
namespace Go.Proofs.YtcapfjonkcekoaaDoor
open Go.RowKit Go.MapKept
set_option maxRecDepth 100000
set_option linter.unusedSimpArgs false
set_option linter.unusedVariables false
theorem bareP_snoc (l : List UInt8) (b : UInt8) : bareP (l ++ [b]) = if b = 32 then bareP l else bareP l ++ [b] := by
  unfold bareP
  rw [List.filter_append]
  by_cases h : b = 32 <;> simp [h]
theorem bareP_len (l : List UInt8) : (bareP l).length ≤ l.length := List.length_filter_le _ _
set_option maxHeartbeats 4000000 in
theorem bare_any (s : ByteArray) (w : World) (hs : s.size ≤ 1000000) :
    Calls Tryd.prog 35 #[.string s] w fun x w' => x = .returned (.string ⟨(bareP s.data.toList).toArray⟩) ∧ Below w.heap.size w w' := by
  obtain ⟨i0, hi, hz0, hz1, hz2⟩ := info_parts infoByte
  go_enter Tryd.func35, Tryd.ntmps35
  go_wp2
  go_loopw [4, 3] (fun i v wr => ∃ k : Nat, k ≤ s.size ∧ i = .int .i64 k ∧ Hid (wr.ownsRow w.heap.size 5 1 v (bareP (s.data.toList.take k)).length (Lib.byteCells (bareP (s.data.toList.take k)))) ∧ Hid (Below w.heap.size w wr)) (fun i _ _ => s.size - (intOf i).toNat)
  case atStart => exact ⟨0, Nat.zero_le _, rfl, Lib.hid (World.ownsRow_nil _ _ _ _), Lib.hid (Below.refl _ _)⟩
  case round =>
    obtain ⟨k, hk, rfl, hown, hb⟩ := hrel
    obtain ⟨va, vc, rfl⟩ := own_slice hown.out
    by_cases hlt : k < s.size
    · have he := byte_at s k hlt
      have ht := take_snoc he
      have hq := bareP_snoc (s.data.toList.take k) s[k]
      rw [← ht] at hq
      have hl1 := bareP_len (s.data.toList.take k)
      have hl2 : (s.data.toList.take k).length ≤ k := by simp; omega
      generalize hc : s[k] = c at *
      have HQ := Lib.hid hq
      clear hq ht he
      by_cases h32 : c = 32
      · have h32' : (c.toNat : Int) = 32 := by rw [h32]; rfl
        rw [if_pos h32] at HQ
        clear h32
        go_wp2
        go_roundw
        case rel => exact ⟨k + 1, by omega, by go_num, Lib.hid (by rw [HQ.out]; exact hown.out), hb⟩
        case measure => simp [intOf]; omega
      · have h32' : ¬ (c.toNat : Int) = 32 := fun h => h32 (by apply UInt8.toNat_inj.1; simp; omega)
        rw [if_neg h32] at HQ
        have hsz := hb.out.size
        clear h32
        go_wp2_with (at_builtin; refine wpList_append_own _ rfl _ _ 63 rfl w.heap.size 5 i0 (.int .u8 0) 1 1 Tryd.underlying63 hi hz0 hz1 hz2 rfl (by decide) _ _ _ rfl (hown.out.alloc _) ⟨wr.heap.size, 0, none⟩ 1 1 [.int .u8 (c.toNat : Int)] rfl rfl ?c1 ?c2 ?c3 ?c4 ?c5 ?_)
        case c1 =>
          intro j u hj
          match j, hj with
          | 0, hj => simp at hj; subst hj; simp [Addr.add]
        case c2 => intro u hu; simp at hu; subst hu; rfl
        case c3 => unfold maxLen; omega
        case c4 => omega
        case c5 => simp; omega
        intro v' w2 hown' hgrow _
        have B2 := Lib.hid ((hb.out.alloc hsz (.cells #[.int .u8 (c.toNat : Int)] 5)).grown hgrow (by simp; omega) (fun k hk => (hown.out.lt k hk).1))
        have O2 := Lib.hid (show w2.ownsRow w.heap.size 5 1 v' (bareP (s.data.toList.take (k + 1))).length (Lib.byteCells (bareP (s.data.toList.take (k + 1)))) by
          rw [HQ.out, byteCells_snoc, List.length_append]; exact hown')
        clear hown' hgrow
        go_wp2
        go_roundw
        case rel => exact ⟨k + 1, by omega, by go_num, O2, B2⟩
        case measure => simp [intOf]; omega
    · obtain rfl : k = s.size := by omega
      have hcv : (convert 63 9 (.slice va (bareP (s.data.toList.take s.size)).length vc)).run Tryd.prog wr = .ok (.string ⟨(bareP s.data.toList).toArray⟩) wr := by
        have hall : s.data.toList.take s.size = s.data.toList := List.take_of_length_le (by rw [slen]; exact Nat.le_refl _)
        rw [hall] at hown ⊢
        rcases hown.out.2 with ⟨hv, h0⟩ | ⟨g, cap, cur, hv, hg, hh, hnc, hcm, hcs, htk⟩
        · injection hv with e1 e2 e3
          subst e1 e3
          rw [run_convert_bytes_nil wr 63 5 Tryd.underlying63 Tryd.underlying5 _ _ 9 Tryd.underlying9]
          rw [List.length_eq_zero_iff.1 h0]; rfl
        · cases hv
          exact run_convert_bytes_back (P := Tryd.prog) wr 63 9 5 ⟨g, 0, none⟩ vc (bareP s.data.toList) Tryd.underlying63 Tryd.underlying5 Tryd.underlying9 (fun j hj => by
            have h := hown.out.cellAt j (by omega)
            have e : (⟨g, 0, none⟩ : Addr).add j = ⟨g, j, none⟩ := by unfold Addr.add; split <;> simp_all
            rw [e, h]
            simp [Lib.byteCells, hj])
      go_wp2
      go_ret
      exact ⟨rfl, hb.out⟩
def flatB (l : List (List UInt8)) : List UInt8 := (l.map bareP).flatten
theorem flatB_snoc (l : List (List UInt8)) (x : List UInt8) : flatB (l ++ [x]) = flatB l ++ bareP x := by simp [flatB]
theorem flatB_take (l : List (List UInt8)) (k : Nat) : (flatB (l.take k)).length ≤ (flatB l).length := by
  have : flatB l = flatB (l.take k) ++ flatB (l.drop k) := by
    unfold flatB
    rw [← List.flatten_append, ← List.map_append, List.take_append_drop]
  rw [this, List.length_append]; omega
/-- A tidy text as bytes: not empty, no space at either end. -/
theorem tidy_bytes (x : List UInt8) (h : Tidy x) : ∃ (r : ByteArray) (m : Nat) (h0 : 0 < r.size) (hm : m < r.size), r = ⟨x.toArray⟩ ∧ x.length = m + 1 ∧ r.size = m + 1 ∧ ¬ ((r[0].toNat : Nat) : Int) = 32 ∧ ¬ ((r[m].toNat : Nat) : Int) = 32 := by
  obtain ⟨h1, h2, h3⟩ := h
  have hp := List.length_pos_iff.2 h1
  have hs : (⟨x.toArray⟩ : ByteArray).size = x.length := mk_size' _
  refine ⟨⟨x.toArray⟩, x.length - 1, by omega, by omega, rfl, by omega, by omega, fun h => h2 ?_, fun h => h3 ?_⟩
  · rw [ByteArray.getElem_eq_getElem_data] at h
    rw [List.head?_eq_getElem?, List.getElem?_eq_getElem hp]
    congr 1
    apply UInt8.toNat_inj.1
    simp at h ⊢
    omega
  · rw [ByteArray.getElem_eq_getElem_data] at h
    rw [List.getLast?_eq_getElem?, List.getElem?_eq_getElem (by omega)]
    congr 1
    apply UInt8.toNat_inj.1
    simp at h ⊢
    omega
theorem len_flatten {x : List UInt8} : ∀ {l : List (List UInt8)}, x ∈ l → x.length ≤ l.flatten.length
  | [], h => by cases h
  | a :: l, h => by
    rw [List.flatten_cons, List.length_append]
    rcases List.mem_cons.1 h with rfl | h
    · omega
    · have := len_flatten h; omega
theorem sentP_ne (t : List UInt8) : ∀ x ∈ sentP t, x.length ≤ t.length := by
  intro x hx
  have h1 := len_flatten hx
  have h2 := keepP_flat (cut 0 [] t)
  rw [cut_flat] at h2
  simp only [List.nil_append] at h2
  unfold sentP at h1
  omega
set_option maxHeartbeats 8000000 in
theorem shape11 (s : ByteArray) (w : World) (hs : s.size ≤ maxLen) :
    Calls Tryd.prog 11 #[.string s] w fun x w' => x = .returned (.bool true) ∧ Below w.heap.size w w' := by
  have hsm := hs
  unfold maxLen at hsm
  go_enter Tryd.func11, Tryd.ntmps11
  go_wp2_with fail
  refine (sane_any w).mono ?_
  rintro x w1 ⟨rfl, b1⟩
  have B1 := Lib.hid b1
  clear b1
  go_wp2_with fail
  have hc : (s.extract 0 (min (s.size : Int) 2000).toNat).size ≤ 2000 := by simp; omega
  generalize s.extract 0 (min (s.size : Int) 2000).toNat = t at *
  refine (sents_any t w1 (by omega)).mono ?_
  rintro x w2 ⟨a, c, rfl, hrow, b2⟩
  have B2 := Lib.hid (bel2 B1.out b2)
  have H := Lib.hid (ss_of_own hrow rfl)
  have T := Lib.hid (sentP_tidy t.data.toList)
  have N := Lib.hid (sentP_ne t.data.toList)
  have F := Lib.hid (show flatB (sentP t.data.toList) = bareP t.data.toList from sentP_bare t.data.toList)
  have hF : (flatB (sentP t.data.toList)).length ≤ 2000 := by
    rw [F.out]; have := bareP_len t.data.toList; rw [slen] at this; omega
  have htl : t.data.toList.length ≤ 2000 := by rw [slen]; exact hc
  have hnc := H.out.1
  have hcm := H.out.2.1
  unfold maxLen at hcm
  clear b2 hrow B1 hsm
  generalize sentP t.data.toList = l at *
  go_wp2
  go_loopw [6, 5] (fun i v wr => ∃ k : Nat, k ≤ l.length ∧ i = .int .i64 k ∧ v = .string ⟨(flatB (l.take k)).toArray⟩ ∧ Hid (Below w2.heap.size w2 wr)) (fun i _ _ => l.length - (intOf i).toNat)
  case atStart => exact ⟨0, Nat.zero_le _, rfl, rfl, Lib.hid (Below.refl _ _)⟩
  case round =>
    obtain ⟨k, hk, rfl, rfl, hb⟩ := hrel
    by_cases hlt : k < l.length
    · have he := List.getElem?_eq_getElem hlt
      obtain ⟨b, rfl, hc⟩ := (H.out.over hb.out).2.2.resolve_left (fun h => by rw [h] at hlt; simp at hlt)
      have hc1 := hc k _ he
      have ht := take_snoc he
      have hsn := flatB_snoc (l.take k) l[k]
      rw [← ht] at hsn
      have hle := flatB_take l (k + 1)
      have hmem : l[k] ∈ l := List.getElem_mem _
      have hx2 := N.out _ hmem
      obtain ⟨r, m, h0, hm, hr, hxl, hrs, n0, n9⟩ := tidy_bytes _ (T.out _ hmem)
      generalize l[k] = x at *
      have hlt' : (k : Int) < l.length := by omega
      have HSN := Lib.hid hsn
      unfold strV at hc1
      have K := Lib.hid (fun W => bare_any ⟨x.toArray⟩ W (by rw [← hr]; omega))
      have hne : ¬ r.toList = [] := by
        rw [ByteArray.toList_eq]; intro h
        have : r.size = 0 := by rw [← slen, h]; rfl
        omega
      rw [show (⟨x.toArray⟩ : ByteArray).data.toList = x from rfl, ← hr] at K
      rw [← hr] at hc1
      have hw0 : IntKind.i64.wrap (m : Int) = (m : Int) := IntWalk.i64_in _ (by omega)
      have hm1 : (r.size : Int) - 1 = (m : Int) := by omega
      have hw1 : IntKind.i64.wrap ((r.size : Int) - 1) = (m : Int) := by rw [hm1]; exact hw0
      have hmr : (m : Int) < (r.size : Int) := by omega
      have hrl : r.size ≤ 2000 := by omega
      have hbl := bareP_len x
      have hfl := flatB_take l k
      have hbs : (⟨(flatB (l.take k)).toArray⟩ : ByteArray).size = (flatB (l.take k)).length := mk_size' _
      have hbs2 : (⟨(bareP x).toArray⟩ : ByteArray).size = (bareP x).length := mk_size' _
      have e0 : r.toList.isEmpty = false := by simpa using hne
      have e1 : (((r[0].toNat : Nat) : Int) == 32) = false := by simpa using n0
      have e2 : (((r[m].toNat : Nat) : Int) == 32) = false := by simpa using n9
      clear ht he hc hsn hr hmem hrs
      go_wp2
      go_quiet (fail)
      have hbd := below_drewN hb.out nq
      have hc2 := cellOver (below_drewN (Below.refl wr.heap.size wr) nq) hc1
      have hfs : (flatB (l.take (k + 1))).length = (flatB (l.take k)).length + (bareP x).length := by rw [HSN.out, List.length_append]
      have HB := Lib.hid hbd
      clear hbd
      go_wp2_with fail
      refine (K.out _).mono ?_
      rintro y w3 ⟨rfl, b3⟩
      have B3 := Lib.hid (bel2 HB.out b3)
      clear b3 HB hb
      go_wp2
      go_roundw
      case rel => exact ⟨k + 1, by omega, by go_num, by rw [HSN.out]; congr 1, B3⟩
      case measure => simp [intOf]; omega
    · obtain rfl : k = l.length := by omega
      have K := Lib.hid (bare_any t wr (by omega))
      have HT := Lib.hid (List.take_length (l := l))
      go_wp2_with fail
      refine K.out.mono ?_
      rintro y w3 ⟨rfl, b3⟩
      have B3 := Lib.hid (bel2 B2.out (bel2 hb.out b3))
      clear b3 hb B2
      go_wp2
      go_ret
      refine ⟨?_, B3.out⟩
      show Ending.returned (.bool (flatB l == bareP t.data.toList)) = _
      rw [F.out]; simp
end Go.Proofs.YtcapfjonkcekoaaDoor
