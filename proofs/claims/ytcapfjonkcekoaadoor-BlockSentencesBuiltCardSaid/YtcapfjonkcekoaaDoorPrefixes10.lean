/- BlockPrefixes: the walk of the statement's text. -/
import Derived.Test.YtcapfjonkcekoaaDoorBlkR
namespace Go.Proofs.YtcapfjonkcekoaaDoor
open Go.RowKit Go.MapKept
set_option maxRecDepth 100000
set_option linter.unusedSimpArgs false
set_option linter.unusedVariables false
set_option maxHeartbeats 1000000 in
theorem pick_any (k : Int) (n : Nat) (w : World) (hk : Bd k) (hn : 0 < n) (hm : n ≤ 100000000) :
    Calls Tryd.prog 34 #[.int .i64 k, .int .i64 n] w fun x w' => ∃ r : Nat, r < n ∧ x = .returned (.int .i64 r) ∧ w = w' := by
  obtain ⟨h1, h2⟩ := hk
  have hn0 : (n : Int) ≠ 0 := by omega
  by_cases hneg : k < 0
  · have f1 := Int.tmod_lt_of_pos (-(k + 1)) (b := (n : Int)) (by omega)
    have f2 := Int.tmod_nonneg (n : Int) (a := -(k + 1)) (by omega)
    rw [Int.neg_tmod] at f1 f2
    go_enter Tryd.func34, Tryd.ntmps34
    go_wp2
    go_ret
    exact ⟨(-(k + 1).tmod n).toNat, by omega, by
      show Ending.returned (.int .i64 (-(k + 1).tmod n)) = _
      rw [Int.toNat_of_nonneg f2], rfl⟩
  · go_enter Tryd.func34, Tryd.ntmps34
    go_wp2
    go_ret
    have f1 := Int.emod_lt_of_pos k (b := (n : Int)) (by omega)
    have f2 := Int.emod_nonneg k (b := (n : Int)) hn0
    exact ⟨(k % n).toNat, by omega, by
      show Ending.returned (.int .i64 (k % n)) = _
      rw [Int.toNat_of_nonneg f2], rfl⟩
theorem encL_pos (l : List Blk) : 0 < (encL l).length := by
  unfold encL
  rw [List.length_append]
  have : 0 < (encInt (l.length : Int)).length := enc_pos _ _
  omega
set_option maxHeartbeats 4000000 in
theorem prefixes10 (a : Option Addr) (n c : Nat) (es : List BE) (k : Int) (t : ByteArray) (w : World) (h : IsBlks w a n c es) (hk : (Lit.int .i64 k).wf = true) (hs : t.size ≤ maxLen) :
    Calls Tryd.prog 10 #[.slice a n c, .int .i64 k, .string t] w fun x w' => x = .returned (.bool true) ∧ Below w.heap.size w w' := by
  have hk' : Hid (Bd k) := Lib.hid (wf64 hk)
  have H := Lib.hid h
  unfold maxLen at hs
  clear h hk
  go_enter Tryd.func10, Tryd.ntmps10
  go_wp2_with fail
  refine (sane_any w).mono ?_
  rintro x w1 ⟨rfl, b1⟩
  have B1 := Lib.hid b1
  clear b1
  go_wp2_with fail
  refine (short_any a n c es w1 (H.out.over B1.out)).mono ?_
  rintro x w2 ⟨a', c', rfl, hi, b2⟩
  have B2 := Lib.hid (bel2 B1.out b2)
  have I1 := Lib.hid hi
  clear b2 hi B1 H
  generalize shS es = es at *
  go_wp2_with fail
  refine (encode_any a' _ c' es w2 I1.out).mono ?_
  rintro x w3 ⟨rfl, b3⟩
  have B3 := Lib.hid (bel2 B2.out b3)
  clear b3 I1 B2
  rcases encR_err (blks es) with ⟨e1, v1, t1⟩ | ⟨e1, v1, t1⟩
  · rw [e1, t1]
    have V1 := Lib.hid v1
    have hp := encL_pos (blks es)
    have hl := encL_len v1
    have hne : encL (blks es) ≠ [] := List.length_pos_iff.1 hp
    clear e1 t1 v1
    obtain ⟨E, hE⟩ : ∃ E, E = encL (blks es) := ⟨_, rfl⟩
    have HE := Lib.hid hE
    rw [← hE] at hp hl hne ⊢
    clear hE
    have hem : E.isEmpty = false := by cases E <;> simp_all
    clear hne
    have hse : (⟨E.toArray⟩ : ByteArray).size = E.length := mk_size' E
    go_wp2_with fail
    refine (pick_any k E.length w3 hk'.out hp hl).mono ?_
    rintro x w4 ⟨r, hr, rfl, rfl⟩
    go_wp2_with fail
    have hx1 : ((⟨E.toArray⟩ : ByteArray).extract 0 r).data.toList = E.take r := by rw [extract_toList]; simp
    have hd1 : (decP ((⟨E.toArray⟩ : ByteArray).extract 0 r).data.toList).2 = 10 := by rw [hx1, HE.out]; exact dec_prefix V1.out r (by rw [← HE.out]; exact hr)
    have hd2 := decP_err _ (show (decP ((⟨E.toArray⟩ : ByteArray).extract 0 r).data.toList).2 ≠ 0 by omega)
    have hsz : ((⟨E.toArray⟩ : ByteArray).extract 0 r).size ≤ maxLen := by unfold maxLen; simp; omega
    refine (decode_any _ w3 hsz).mono ?_
    rintro x w5 ⟨ad, cd, ds, rfl, hd, hi, b5⟩
    rw [hd1, hd2]
    have B5 := Lib.hid (bel2 B3.out b5)
    clear hd hi b5 hsz hd1 hd2 hx1 B3
    go_wp2_with fail
    have hcs : (t.extract 0 (min (t.size : Int) 20).toNat).size ≤ 20 := by simp; omega
    generalize t.extract 0 (min (t.size : Int) 20).toNat = u at *
    go_wp2_with fail
    have hx2 : ((⟨E.toArray⟩ : ByteArray) ++ u).data.toList = E ++ u.data.toList := by simp
    refine (decode_any _ w5 (by unfold maxLen; simp only [ByteArray.size_append]; omega)).mono ?_
    rintro x w6 ⟨ad2, cd2, ds2, rfl, hd, hi, b6⟩
    have B6 := Lib.hid (bel2 B5.out b6)
    clear hd hi b6 B5
    by_cases hu : u.data.toList = []
    · have hd1 : decP ((⟨E.toArray⟩ : ByteArray) ++ u).data.toList = (blks es, 0) := by rw [hx2, hu, List.append_nil, HE.out]; exact dec_enc V1.out
      rw [hd1]
      have hut : u.toList = [] := by rw [ByteArray.toList_eq]; exact hu
      clear hd1 hu hx2
      go_wp2
      go_ret
      exact ⟨rfl, B6.out⟩
    · have hd1 : (decP ((⟨E.toArray⟩ : ByteArray) ++ u).data.toList).2 = 10 := by rw [hx2, HE.out]; exact dec_more V1.out _ hu
      have hd2 := decP_err _ (show (decP ((⟨E.toArray⟩ : ByteArray) ++ u).data.toList).2 ≠ 0 by omega)
      rw [hd1, hd2]
      have hut : ¬ u.toList = [] := by rw [ByteArray.toList_eq]; exact hu
      clear hd1 hd2 hu hx2
      go_wp2
      go_ret
      refine ⟨?_, B6.out⟩
      have hb : u.toList.isEmpty = false := by simpa using hut
      show Ending.returned (.bool (!u.toList.isEmpty)) = _
      rw [hb]; rfl
  · rw [e1, t1]
    go_wp2
    go_ret
    exact ⟨rfl, B3.out⟩
end Go.Proofs.YtcapfjonkcekoaaDoor
