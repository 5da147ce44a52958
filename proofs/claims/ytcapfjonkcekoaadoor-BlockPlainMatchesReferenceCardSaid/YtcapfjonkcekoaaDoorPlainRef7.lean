/- The reference's plain text, and BlockPlainMatchesReference. -/
import Derived.Test.YtcapfjonkcekoaaDoorRefSents
namespace Go.Proofs.YtcapfjonkcekoaaDoor
open Go.RowKit Go.MapKept
set_option maxRecDepth 100000
set_option linter.unusedSimpArgs false
set_option linter.unusedVariables false
theorem plain_len1000 {l : List Blk} (h : ∀ b ∈ l, b.tx.length ≤ 1000) (hn : l.length ≤ 100) : (plainP l).length ≤ 200300 := by
  have h1 := plainP_len l 1000 h
  have : (2 * 1000 + 3) * l.length ≤ (2 * 1000 + 3) * 100 := Nat.mul_le_mul_left _ hn
  omega
set_option maxHeartbeats 16000000 in
theorem refplain_any (a : Option Addr) (n c : Nat) (es : List BE) (w : World) (h : IsBlks w a n c es) (hn : n ≤ 100) (ht : ∀ e ∈ es, e.1.tx.length ≤ 1000) :
    Calls Tryd.prog 32 #[.slice a n c] w fun x w' => x = .returned (.string ⟨(plainP (blks es)).toArray⟩) ∧ Below w.heap.size w w' := by
  have hcm := h.2.2.1
  have hnc := h.2.1
  have HL := Lib.hid h.1
  have H := Lib.hid h
  have HT := Lib.hid ht
  unfold maxLen at hcm
  clear h ht
  go_enter Tryd.func32, Tryd.ntmps32
  go_wp2
  go_loopw [4, 3] (fun i v wr => ∃ k : Nat, k ≤ n ∧ i = .int .i64 k ∧ v = .string ⟨(plainP (blks (es.take k))).toArray⟩ ∧ Hid (Below w.heap.size w wr)) (fun i _ _ => n - (intOf i).toNat)
  case atStart => exact ⟨0, Nat.zero_le _, rfl, rfl, Lib.hid (Below.refl _ _)⟩
  case round =>
    obtain ⟨k, hk, rfl, rfl, hb⟩ := hrel
    by_cases hlt : k < n
    · obtain ⟨b, off, e, rfl, he, hok, h9⟩ := (H.out.over hb.out).at_ hlt
      have PS := Lib.hid (plain_succ he)
      have htx := HT.out e (List.mem_of_getElem? he)
      have hpl : (plainP (blks (es.take k))).length ≤ 200300 := plain_len1000 (fun x hx => by
        obtain ⟨y, hy, rfl⟩ := List.mem_map.1 hx
        exact HT.out y (List.mem_of_mem_take hy)) (by simp [blks]; omega)
      have zt := mk_size' (plainP (blks (es.take k)))
      generalize plainP (blks (es.take k)) = P at *
      obtain ⟨p0, p1, p2, p3, p4, p5, p6, p7, p8⟩ := h9
      have g1 : (k : Int) < n := by omega
      have zx := mk_size' e.1.tx
      have h1 := Lib.hid (show oneP e.1 = if inB e.1.kd 1 5 = true then lineP e.1.kd e.1.tx ++ [10] else [] from rfl)
      generalize e.1.kd = kd at *
      generalize e.1.tx = tx at *
      clear p0 p3 p4 p5 p6 p7 p8 he hok
      by_cases k1 : kd = 1
      · subst k1
        have HO : Hid (oneP e.1 = tx ++ [10]) := Lib.hid (by rw [h1.out]; rfl)
        go_wp2
        go_roundw
        case rel => exact ⟨k + 1, by omega, by go_num, by rw [PS.out, HO.out]; congr 1; exact bytes_ext (by simp), hb⟩
        case measure => simp [intOf]; omega
      · by_cases k2 : kd = 2
        · subst k2
          have HO : Hid (oneP e.1 = joinP (sentP tx) ++ [10]) := Lib.hid (by rw [h1.out]; rfl)
          have K := Lib.hid (refsents_any ⟨tx.toArray⟩ wr (by omega))
          rw [show (⟨tx.toArray⟩ : ByteArray).data.toList = tx from rfl] at K
          have hjl := flow_len tx
          generalize sentP tx = l at *
          go_wp2_with fail
          refine K.out.mono ?_
          rintro x w3 ⟨ra, rc, rfl, hrow, b3⟩
          have IS := Lib.hid (ss_of_own hrow rfl)
          have hrc1 := IS.out.1
          have hrc2 := IS.out.2.1
          unfold maxLen at hrc2
          have B3 := Lib.hid (bel2 hb.out b3)
          clear hrow K b3 p1 p2 hb
          go_wp2
          go_loopw [6, 3] (fun i v wz => ∃ j : Nat, j ≤ l.length ∧ i = .int .i64 j ∧ v = .string ⟨(P ++ joinP (l.take j)).toArray⟩ ∧ wz = w3) (fun i _ _ => l.length - (intOf i).toNat)
          case atStart => exact ⟨0, Nat.zero_le _, rfl, by simp [joinP], rfl⟩
          case round =>
            obtain ⟨j, hj, rfl, rfl, rfl⟩ := hrel
            have zj := mk_size' (P ++ joinP (l.take j))
            rw [List.length_append] at zj
            have hle1 := joinP_take_le l j
            by_cases hjlt : j < l.length
            · have hej := List.getElem?_eq_getElem hjlt
              obtain ⟨bb, rfl, hc⟩ := IS.out.2.2.resolve_left (fun h => by rw [h] at hjlt; simp at hjlt)
              have hc1 := hc j _ hej
              have htk := take_snoc hej
              have hle2 := joinP_take_le l (j + 1)
              have hjs := joinP_snoc (l.take j) l[j]
              rw [← htk] at hjs
              generalize hs : l[j] = s at *
              have hlt' : (j : Int) < l.length := by omega
              have zs := mk_size' s
              unfold strV at hc1
              cases j with
              | zero =>
                have hjs' : joinP (l.take 1) = s := by simpa using hjs
                have hle2' : s.length ≤ (joinP l).length := by rw [← hjs']; exact hle2
                have HJ := Lib.hid hjs'
                clear hjs hle2 htk hej hc hs hjs'
                have hj0 : (joinP []).length = 0 := rfl
                have hj00 : P ++ joinP [] = P := by simp [joinP]
                go_wp2
                go_roundw
                case rel => exact ⟨1, by omega, by go_num, by rw [HJ.out]; first | (congr 1; done) | (congr 1; exact bytes_ext (by simp [joinP])), trivial⟩
                case measure => simp [intOf]; omega
              | succ j =>
                have hne : l.take (j + 1) ≠ [] := by intro h; have := congrArg List.length h; rw [List.length_take, List.length_nil] at this; omega
                rw [if_neg hne] at hjs
                have hle2' : (joinP (l.take (j + 1))).length + (s.length + 1) ≤ (joinP l).length := by
                  refine Nat.le_trans ?_ hle2
                  rw [hjs, List.length_append, List.length_cons]; omega
                have HJ := Lib.hid hjs
                clear hjs hle2 htk hej hc hs hne
                go_wp2
                go_roundw
                case rel => exact ⟨j + 1 + 1, by omega, by go_num, by rw [HJ.out]; congr 1; exact bytes_ext (by simp), trivial⟩
                case measure => simp [intOf]; omega
            · obtain rfl : j = l.length := by omega
              rw [List.take_length] at zj ⊢
              go_wp2
              go_roundw
              case rel => exact ⟨k + 1, by omega, by go_num, by rw [PS.out, HO.out]; congr 1; exact bytes_ext (by simp), B3⟩
              case measure => simp [intOf]; omega
        · by_cases k3 : kd = 3
          · subst k3
            have HO : Hid (oneP e.1 = 34 :: (tx ++ [34, 10])) := Lib.hid (by rw [h1.out]; simp [lineP, inB])
            go_wp2
            go_roundw
            case rel => exact ⟨k + 1, by omega, by go_num, by rw [PS.out, HO.out]; congr 1; exact bytes_ext (by simp), hb⟩
            case measure => simp [intOf]; omega
          · by_cases k4 : kd = 4
            · subst k4
              have HO : Hid (oneP e.1 = 91 :: (tx ++ [93, 10])) := Lib.hid (by rw [h1.out]; simp [lineP, inB])
              go_wp2
              go_roundw
              case rel => exact ⟨k + 1, by omega, by go_num, by rw [PS.out, HO.out]; congr 1; exact bytes_ext (by simp), hb⟩
              case measure => simp [intOf]; omega
            · by_cases k5 : kd = 5
              · subst k5
                have HO : Hid (oneP e.1 = 35 :: (tx ++ [10])) := Lib.hid (by rw [h1.out]; simp [lineP, inB])
                go_wp2
                go_roundw
                case rel => exact ⟨k + 1, by omega, by go_num, by rw [PS.out, HO.out]; congr 1; exact bytes_ext (by simp), hb⟩
                case measure => simp [intOf]; omega
              · have HO : Hid (oneP e.1 = []) := Lib.hid (by rw [h1.out]; rw [if_neg]; simp [inB]; omega)
                have e1 : (kd == 1) = false := by simpa using k1
                have e2 : (kd == 2) = false := by simpa using k2
                have e3 : (kd == 3) = false := by simpa using k3
                have e4 : (kd == 4) = false := by simpa using k4
                have e5 : (kd == 5) = false := by simpa using k5
                clear k1 k2 k3 k4 k5
                go_wp2
                go_roundw
                case rel => exact ⟨k + 1, by omega, by go_num, by rw [PS.out, HO.out, List.append_nil], hb⟩
                case measure => simp [intOf]; omega
    · obtain rfl : k = n := by omega
      have hall : es.take k = es := List.take_of_length_le (by rw [HL.out]; exact Nat.le_refl _)
      rw [hall]
      go_wp2
      go_ret
      exact ⟨rfl, hb.out⟩
set_option maxHeartbeats 4000000 in
theorem plainref7 (a : Option Addr) (n c : Nat) (es : List BE) (w : World) (h : IsBlks w a n c es) :
    Calls Tryd.prog 7 #[.slice a n c] w fun x w' => x = .returned (.bool true) ∧ Below w.heap.size w w' := by
  have H := Lib.hid h
  clear h
  go_enter Tryd.func7, Tryd.ntmps7
  go_wp2_with fail
  refine (sane_any w).mono ?_
  rintro x w1 ⟨rfl, b1⟩
  have B1 := Lib.hid b1
  clear b1
  go_wp2_with fail
  refine (short_any a n c es w1 (H.out.over B1.out)).mono ?_
  rintro x w2 ⟨a', c', rfl, hi, b2⟩
  have B2 := Lib.hid (bel2 B1.out b2)
  have I1 := Lib.hid hi
  have L1 := shS_len es
  have X1 := Lib.hid (shS_tx (es := es))
  clear b2 hi B1 H
  generalize shS es = es at *
  go_wp2_with fail
  refine (plain_any a' _ c' es w2 I1.out (by omega) X1.out).mono ?_
  rintro x w3 ⟨rfl, b3⟩
  have B3 := Lib.hid (bel2 B2.out b3)
  have I2 := Lib.hid (I1.out.over b3)
  clear b3 I1 B2
  go_wp2_with fail
  refine (refplain_any a' _ c' es w3 I2.out (by omega) X1.out).mono ?_
  rintro x w4 ⟨rfl, b4⟩
  have B4 := Lib.hid (bel2 B3.out b4)
  clear b4
  go_wp2
  go_ret
  exact ⟨by simp, B4.out⟩
end Go.Proofs.YtcapfjonkcekoaaDoor
