import Derived.Test.YtdhioalfgogcdaaGreatDoorBlkT2
import Derived.RangeFuncNested
import Derived.RangeFuncBound
import Derived.RangeFuncCalls
import Derived.RangeFuncLeaves
import Derived.Shelf.Abstract
import Derived.Shelf.RegionOpen
import Derived.OwnWalkIn
import Derived.TacticsInMore
import Derived.LoopNIn
import Derived.LoopIn
import Derived.Scope
namespace Go.Proofs.YtdhioalfgogcdaaGreatDoor
open Go.RowKit Go.MapKept Go.Shelf
attribute [local go_sem] Oper.semAt_some
set_option maxRecDepth 100000
set_option linter.unusedSimpArgs false
set_option linter.unusedVariables false
/-- The text's box is kept. -/
def KpT (Bt : Nat) (s : ByteArray) (W W' : World) : Prop := W.cell? ⟨Bt, 0, none⟩ = some (.string s) → W'.cell? ⟨Bt, 0, none⟩ = some (.string s)
def accT (T : List UInt8) (m k : Nat) : List UInt8 := (T.drop m).take (k - m)
theorem accT_snoc {T : List UInt8} {m k : Nat} {b : UInt8} (hm : m ≤ k) (hb : T[k]? = some b) : accT T m (k + 1) = accT T m k ++ [b] := by
  unfold accT
  rw [show k + 1 - m = (k - m) + 1 by omega, List.take_add_one]
  congr 1
  rw [List.getElem?_drop, show m + (k - m) = k by omega, hb]
  rfl
theorem cut_at {T : List UInt8} {pre : List (List UInt8)} {m k : Nat} {b : UInt8} (hm : m ≤ k) (hb : T[k]? = some b) (h : cut 0 [] T = pre ++ cut (stt (T.take k)) (accT T m k) (T.drop k)) :
    (enB (stt (T.take k)) b (T.drop (k + 1)) = false → cut 0 [] T = pre ++ cut (stt (T.take (k + 1))) (accT T m (k + 1)) (T.drop (k + 1))) ∧
    (enB (stt (T.take k)) b (T.drop (k + 1)) = true → cut 0 [] T = (pre ++ [accT T m (k + 1)]) ++ cut (stt (T.take (k + 1))) (accT T (k + 1) (k + 1)) (T.drop (k + 1))) := by
  obtain ⟨hk, hbk⟩ := List.getElem?_eq_some_iff.1 hb
  have hd : T.drop k = b :: T.drop (k + 1) := by rw [List.drop_eq_getElem_cons hk, hbk]
  have ht : T.take (k + 1) = T.take k ++ [b] := by rw [List.take_succ_eq_append_getElem hk, hbk]
  rw [hd, cut] at h
  rw [ht, stt_snoc, accT_snoc hm hb]
  constructor
  · intro he
    rw [he, if_neg (by simp)] at h
    exact h
  · intro he
    rw [if_pos he] at h
    rw [h]
    simp [accT]
theorem head_drop (s : ByteArray) (k : Nat) : (s.data.toList.drop k).head? = s.data.toList[k]? := by rw [List.head?_drop]
theorem enB_of {c : Nat} {b : UInt8} {r : List UInt8} (h1 : (b = 33 ∨ b = 63) ∨ (b = 46 ∧ c ≠ 1)) (h2 : r = [] ∨ r.head? = some 32) : enB c b r = true := by
  unfold enB
  simp only [Bool.and_eq_true, Bool.or_eq_true, decide_eq_true_eq]
  exact ⟨h1, h2⟩
theorem enB_no1 {c : Nat} {b : UInt8} {r : List UInt8} (h1 : ¬ ((b = 33 ∨ b = 63) ∨ (b = 46 ∧ c ≠ 1))) : enB c b r = false := by
  rw [← Bool.not_eq_true]
  unfold enB
  simp only [Bool.and_eq_true, Bool.or_eq_true, decide_eq_true_eq]
  exact fun h => h1 h.1
theorem enB_no2 {c : Nat} {b y : UInt8} {r : List UInt8} (h2 : r.head? = some y) (hy : y ≠ 32) : enB c b r = false := by
  rw [← Bool.not_eq_true]
  unfold enB
  simp only [Bool.and_eq_true, Bool.or_eq_true, decide_eq_true_eq]
  rintro ⟨-, h | h⟩
  · rw [h] at h2; cases h2
  · rw [h] at h2; cases h2; exact hy rfl
theorem accT_len (s : ByteArray) (m k : Nat) : (accT s.data.toList m k).length ≤ s.size := by
  unfold accT; rw [List.length_take, List.length_drop, slen]; omega
theorem ext_acc (s : ByteArray) (m k : Nat) : (⟨(accT s.data.toList m k).toArray⟩ : ByteArray) = s.extract m k := bytes_ext (by rw [extract_toList]; rfl)
theorem ext_rest (s : ByteArray) (m : Nat) : (⟨(accT s.data.toList m s.size).toArray⟩ : ByteArray) = s.extract m s.size := ext_acc s m s.size
set_option maxHeartbeats 8000000 in
theorem parts1_in (n : Nat) (hn : 2 ≤ n) (l Bt : Nat) (s : ByteArray) (hs : s.size ≤ maxLen) (J Jx : List (List UInt8) → World → Prop)
    (hY : ∀ pre x W, J pre W → pre.length < s.size + 1 → (x : List UInt8).length ≤ s.size → YieldAt Fence.wide (n - 1) Tryz.prog l #[.string ⟨(x : List UInt8).toArray⟩] W fun e W' =>
      (e = .returned (.bool true) ∧ J (pre ++ [x]) W' ∧ KpT Bt s W W') ∨ (e = .returned (.bool false) ∧ Jx (pre ++ [x]) W'))
    (W : World) (hBt : W.cell? ⟨Bt, 0, none⟩ = some (.string s)) (h0 : J [] W) :
    CallsIn Fence.wide n Tryz.prog 49 #[.func (.yield l) #[] #[], .pointer (some ⟨Bt, 0, none⟩)] W fun e W' => (∃ v, e = .returned v) ∧
      ((∃ ys, ys = cut 0 [] s.data.toList ∧ J ys W') ∨ (∃ pre, pre <+: cut 0 [] s.data.toList ∧ Jx pre W')) := by
  unfold maxLen at hs
  have hn1 : 1 ≤ n := by omega
  refine callsIn_of_wp Tryz.func49 rfl trivial ?_ rfl
  simp only [Tryz.ntmps49, List.size_toArray, List.length_cons, List.length_nil, Nat.reduceAdd, Nat.reduceSub, Array.replicate_succ, Array.replicate_zero, List.push_toArray, List.append_toArray, List.nil_append, List.cons_append]
  refine wpIn_wide.2 (wp_scope_straight ((wpIn_wide (n := n)).1 ?_))
  refine wpIn_seq ?_
  gi_wp2
  refine wpIn_label ?_
  gi_wp2
  gi_loopw [8, 3, 4, 5, 14, 17] (fun p q _ _ _ _ wr => ∃ (pre : List (List UInt8)) (k m : Nat), p = .int .i64 (k : Int) ∧ q = .int .i64 (m : Int) ∧ m ≤ k ∧ k ≤ s.size ∧ pre.length ≤ m ∧ Hid (cut 0 [] s.data.toList = pre ++ cut (stt (s.data.toList.take k)) (accT s.data.toList m k) (s.data.toList.drop k)) ∧ J pre wr ∧ wr.cell? ⟨Bt, 0, none⟩ = some (.string s))
    (fun p _ _ _ _ _ wr => s.size - (intOf p).toNat)
  case atStart =>
    exact ⟨[], 0, 0, rfl, rfl, Nat.le_refl _, Nat.zero_le _, Nat.zero_le _, Lib.hid (by simp [accT, stt]), h0, hBt⟩
  case round =>
    obtain ⟨pre, k, m, rfl, rfl, hmk, hks, hpl, hcut, hJs, hcell⟩ := hrel
    by_cases hlt : k < s.size
    · have hb := get_at s k hlt
      have HC := Lib.hid (cut_at hmk hb hcut.out)
      have HX := Lib.hid (ext_acc s m (k + 1))
      have hltn : (k : Int) < s.size := by omega
      have hini := Lib.hid (fun W => ini_any s k W hs hlt)
      have HI := Lib.hid (show iniB (s.data.toList.take k) = decide (stt (s.data.toList.take k) = 1) from rfl)
      have he33 : ((s[k].toNat : Int) == 33) = decide (s[k] = 33) := u8_int s[k] 33
      have he63 : ((s[k].toNat : Int) == 63) = decide (s[k] = 63) := u8_int s[k] 63
      have he46 : ((s[k].toNat : Int) == 46) = decide (s[k] = 46) := u8_int s[k] 46
      have HNX : Hid (s.data.toList.drop (k + 1) = [] ↔ ¬ k + 1 < s.size) := Lib.hid (by rw [List.drop_eq_nil_iff, slen]; omega)
      have HHD := Lib.hid (head_drop s (k + 1))
      generalize hc : stt (s.data.toList.take k) = c at *
      generalize iniB (s.data.toList.take k) = ib at *
      clear hb hc hcut
      generalize hbb : s[k] = b at *
      by_cases h33 : b = 33
      · have e33 : ((b.toNat : Int) == 33) = true := by rw [he33]; simp [h33]
        by_cases hkn : k + 1 < s.size
        · have hgy := get_at s (k + 1) hkn
          have hk2 : (k : Int) + 1 < s.size := by omega
          have hey : ((s[k + 1].toNat : Int) != 32) = !decide (s[k + 1] = 32) := congrArg (fun b => !b) (u8_int s[k + 1] 32)
          have HHY := Lib.hid (HHD.out.trans hgy)
          clear hgy
          generalize hyy : s[k + 1] = y at *
          by_cases hy32 : y = 32
          · have hey2 : ((y.toNat : Int) != 32) = false := by rw [hey]; simp [hy32]
            clear hey
            have HG := Lib.hid (HC.out.2 (enB_of (.inl (.inl h33)) (.inr (by rw [HHY.out, hy32]))))
            obtain ⟨fn, tmps, assign, body, hy, hR⟩ := hY pre (accT s.data.toList m (k + 1)) wr hJs (by omega) (accT_len s m (k + 1))
            rw [HX.out] at hy
            have hm1 : (m : Int) ≤ (k : Int) + 1 := by omega
            have hk1 : (k : Int) + 1 ≤ s.size := by omega
            gi_wp2
            refine hR.mono ?_
            rintro e W3 (⟨rfl, hJ3, hk3⟩ | ⟨rfl, hJx3⟩)
            · have hc3 := hk3 hcell
              gi_wp2
              go_roundw
              case rel => exact ⟨pre ++ [accT s.data.toList m (k + 1)], k + 1, k + 1, by go_num, by go_num, Nat.le_refl _, by omega, by simp; omega, HG, hJ3, hc3⟩
              case measure => simp [intOf]; omega
            · gi_wp2
              simp only [Exit.noGoto]
              refine bodyPost_ret (results_none rfl _ _ _) rfl ?_
              exact ⟨⟨_, rfl⟩, .inr ⟨pre ++ [accT s.data.toList m (k + 1)], ⟨_, HG.out.symm⟩, hJx3⟩⟩
          · have hey2 : ((y.toNat : Int) != 32) = true := by rw [hey]; simp [hy32]
            clear hey
            have HG := Lib.hid (HC.out.1 (enB_no2 HHY.out hy32))
            clear he33 he63 he46 hini HI
            gi_wp2
            go_roundw
            case rel => exact ⟨pre, k + 1, m, by go_num, rfl, by omega, by omega, by omega, HG, hJs, hcell⟩
            case measure => simp [intOf]; omega
        · have hk2 : ¬ (k : Int) + 1 < s.size := by omega
          have HG := Lib.hid (HC.out.2 (enB_of (.inl (.inl h33)) (.inl (HNX.out.2 hkn))))
          obtain ⟨fn, tmps, assign, body, hy, hR⟩ := hY pre (accT s.data.toList m (k + 1)) wr hJs (by omega) (accT_len s m (k + 1))
          rw [HX.out] at hy
          have hm1 : (m : Int) ≤ (k : Int) + 1 := by omega
          have hk1 : (k : Int) + 1 ≤ s.size := by omega
          gi_wp2
          refine hR.mono ?_
          rintro e W3 (⟨rfl, hJ3, hk3⟩ | ⟨rfl, hJx3⟩)
          · have hc3 := hk3 hcell
            gi_wp2
            go_roundw
            case rel => exact ⟨pre ++ [accT s.data.toList m (k + 1)], k + 1, k + 1, by go_num, by go_num, Nat.le_refl _, by omega, by simp; omega, HG, hJ3, hc3⟩
            case measure => simp [intOf]; omega
          · gi_wp2
            simp only [Exit.noGoto]
            refine bodyPost_ret (results_none rfl _ _ _) rfl ?_
            exact ⟨⟨_, rfl⟩, .inr ⟨pre ++ [accT s.data.toList m (k + 1)], ⟨_, HG.out.symm⟩, hJx3⟩⟩
      · have e33 : ((b.toNat : Int) == 33) = false := by rw [he33]; simp [h33]
        by_cases h63 : b = 63
        · have e63 : ((b.toNat : Int) == 63) = true := by rw [he63]; simp [h63]
          by_cases hkn : k + 1 < s.size
          · have hgy := get_at s (k + 1) hkn
            have hk2 : (k : Int) + 1 < s.size := by omega
            have hey : ((s[k + 1].toNat : Int) != 32) = !decide (s[k + 1] = 32) := congrArg (fun b => !b) (u8_int s[k + 1] 32)
            have HHY := Lib.hid (HHD.out.trans hgy)
            clear hgy
            generalize hyy : s[k + 1] = y at *
            by_cases hy32 : y = 32
            · have hey2 : ((y.toNat : Int) != 32) = false := by rw [hey]; simp [hy32]
              clear hey
              have HG := Lib.hid (HC.out.2 (enB_of (.inl (.inr h63)) (.inr (by rw [HHY.out, hy32]))))
              obtain ⟨fn, tmps, assign, body, hy, hR⟩ := hY pre (accT s.data.toList m (k + 1)) wr hJs (by omega) (accT_len s m (k + 1))
              rw [HX.out] at hy
              have hm1 : (m : Int) ≤ (k : Int) + 1 := by omega
              have hk1 : (k : Int) + 1 ≤ s.size := by omega
              gi_wp2
              refine hR.mono ?_
              rintro e W3 (⟨rfl, hJ3, hk3⟩ | ⟨rfl, hJx3⟩)
              · have hc3 := hk3 hcell
                gi_wp2
                go_roundw
                case rel => exact ⟨pre ++ [accT s.data.toList m (k + 1)], k + 1, k + 1, by go_num, by go_num, Nat.le_refl _, by omega, by simp; omega, HG, hJ3, hc3⟩
                case measure => simp [intOf]; omega
              · gi_wp2
                simp only [Exit.noGoto]
                refine bodyPost_ret (results_none rfl _ _ _) rfl ?_
                exact ⟨⟨_, rfl⟩, .inr ⟨pre ++ [accT s.data.toList m (k + 1)], ⟨_, HG.out.symm⟩, hJx3⟩⟩
            · have hey2 : ((y.toNat : Int) != 32) = true := by rw [hey]; simp [hy32]
              clear hey
              have HG := Lib.hid (HC.out.1 (enB_no2 HHY.out hy32))
              clear he33 he63 he46 hini HI
              gi_wp2
              go_roundw
              case rel => exact ⟨pre, k + 1, m, by go_num, rfl, by omega, by omega, by omega, HG, hJs, hcell⟩
              case measure => simp [intOf]; omega
          · have hk2 : ¬ (k : Int) + 1 < s.size := by omega
            have HG := Lib.hid (HC.out.2 (enB_of (.inl (.inr h63)) (.inl (HNX.out.2 hkn))))
            obtain ⟨fn, tmps, assign, body, hy, hR⟩ := hY pre (accT s.data.toList m (k + 1)) wr hJs (by omega) (accT_len s m (k + 1))
            rw [HX.out] at hy
            have hm1 : (m : Int) ≤ (k : Int) + 1 := by omega
            have hk1 : (k : Int) + 1 ≤ s.size := by omega
            gi_wp2
            refine hR.mono ?_
            rintro e W3 (⟨rfl, hJ3, hk3⟩ | ⟨rfl, hJx3⟩)
            · have hc3 := hk3 hcell
              gi_wp2
              go_roundw
              case rel => exact ⟨pre ++ [accT s.data.toList m (k + 1)], k + 1, k + 1, by go_num, by go_num, Nat.le_refl _, by omega, by simp; omega, HG, hJ3, hc3⟩
              case measure => simp [intOf]; omega
            · gi_wp2
              simp only [Exit.noGoto]
              refine bodyPost_ret (results_none rfl _ _ _) rfl ?_
              exact ⟨⟨_, rfl⟩, .inr ⟨pre ++ [accT s.data.toList m (k + 1)], ⟨_, HG.out.symm⟩, hJx3⟩⟩
        · have e63 : ((b.toNat : Int) == 63) = false := by rw [he63]; simp [h63]
          by_cases h46 : b = 46
          · have e46 : ((b.toNat : Int) == 46) = true := by rw [he46]; simp [h46]
            clear he33 he63 he46
            cases ib
            · have HC1 : Hid (c ≠ 1) := Lib.hid (by have := HI.out; simpa using this)
              by_cases hkn : k + 1 < s.size
              · have hgy := get_at s (k + 1) hkn
                have hk2 : (k : Int) + 1 < s.size := by omega
                have hey : ((s[k + 1].toNat : Int) != 32) = !decide (s[k + 1] = 32) := congrArg (fun b => !b) (u8_int s[k + 1] 32)
                have HHY := Lib.hid (HHD.out.trans hgy)
                clear hgy
                generalize hyy : s[k + 1] = y at *
                by_cases hy32 : y = 32
                · have hey2 : ((y.toNat : Int) != 32) = false := by rw [hey]; simp [hy32]
                  clear hey
                  have HG := Lib.hid (HC.out.2 (enB_of (.inr ⟨h46, HC1.out⟩) (.inr (by rw [HHY.out, hy32]))))
                  obtain ⟨fn, tmps, assign, body, hy, hR⟩ := hY pre (accT s.data.toList m (k + 1)) wr hJs (by omega) (accT_len s m (k + 1))
                  rw [HX.out] at hy
                  have hm1 : (m : Int) ≤ (k : Int) + 1 := by omega
                  have hk1 : (k : Int) + 1 ≤ s.size := by omega
                  gi_wp2_with (refine ⟨trivial, ?_⟩; gi_at_call 50; refine (callsIn_wide.2 (hini.out _)).mono ?_; rintro e w2 ⟨rfl, rfl⟩)
                  refine hR.mono ?_
                  rintro e W3 (⟨rfl, hJ3, hk3⟩ | ⟨rfl, hJx3⟩)
                  · have hc3 := hk3 hcell
                    gi_wp2
                    go_roundw
                    case rel => exact ⟨pre ++ [accT s.data.toList m (k + 1)], k + 1, k + 1, by go_num, by go_num, Nat.le_refl _, by omega, by simp; omega, HG, hJ3, hc3⟩
                    case measure => simp [intOf]; omega
                  · gi_wp2
                    simp only [Exit.noGoto]
                    refine bodyPost_ret (results_none rfl _ _ _) rfl ?_
                    exact ⟨⟨_, rfl⟩, .inr ⟨pre ++ [accT s.data.toList m (k + 1)], ⟨_, HG.out.symm⟩, hJx3⟩⟩
                · have hey2 : ((y.toNat : Int) != 32) = true := by rw [hey]; simp [hy32]
                  clear hey
                  have HG := Lib.hid (HC.out.1 (enB_no2 HHY.out hy32))
                  gi_wp2_with (refine ⟨trivial, ?_⟩; gi_at_call 50; refine (callsIn_wide.2 (hini.out _)).mono ?_; rintro e w2 ⟨rfl, rfl⟩)
                  go_roundw
                  case rel => exact ⟨pre, k + 1, m, by go_num, rfl, by omega, by omega, by omega, HG, hJs, hcell⟩
                  case measure => simp [intOf]; omega
              · have hk2 : ¬ (k : Int) + 1 < s.size := by omega
                have HG := Lib.hid (HC.out.2 (enB_of (.inr ⟨h46, HC1.out⟩) (.inl (HNX.out.2 hkn))))
                obtain ⟨fn, tmps, assign, body, hy, hR⟩ := hY pre (accT s.data.toList m (k + 1)) wr hJs (by omega) (accT_len s m (k + 1))
                rw [HX.out] at hy
                have hm1 : (m : Int) ≤ (k : Int) + 1 := by omega
                have hk1 : (k : Int) + 1 ≤ s.size := by omega
                gi_wp2_with (refine ⟨trivial, ?_⟩; gi_at_call 50; refine (callsIn_wide.2 (hini.out _)).mono ?_; rintro e w2 ⟨rfl, rfl⟩)
                refine hR.mono ?_
                rintro e W3 (⟨rfl, hJ3, hk3⟩ | ⟨rfl, hJx3⟩)
                · have hc3 := hk3 hcell
                  gi_wp2
                  go_roundw
                  case rel => exact ⟨pre ++ [accT s.data.toList m (k + 1)], k + 1, k + 1, by go_num, by go_num, Nat.le_refl _, by omega, by simp; omega, HG, hJ3, hc3⟩
                  case measure => simp [intOf]; omega
                · gi_wp2
                  simp only [Exit.noGoto]
                  refine bodyPost_ret (results_none rfl _ _ _) rfl ?_
                  exact ⟨⟨_, rfl⟩, .inr ⟨pre ++ [accT s.data.toList m (k + 1)], ⟨_, HG.out.symm⟩, hJx3⟩⟩
            · have HC1 : Hid (c = 1) := Lib.hid (by have := HI.out; simpa using this)
              have HG := Lib.hid (HC.out.1 (enB_no1 (by simp [h33, h63, HC1.out])))
              gi_wp2_with (refine ⟨trivial, ?_⟩; gi_at_call 50; refine (callsIn_wide.2 (hini.out _)).mono ?_; rintro e w2 ⟨rfl, rfl⟩)
              go_roundw
              case rel => exact ⟨pre, k + 1, m, by go_num, rfl, by omega, by omega, by omega, HG, hJs, hcell⟩
              case measure => simp [intOf]; omega
          · have e46 : ((b.toNat : Int) == 46) = false := by rw [he46]; simp [h46]
            have HG := Lib.hid (HC.out.1 (enB_no1 (by simp [h33, h63, h46])))
            clear he33 he63 he46 hini HI
            gi_wp2
            go_roundw
            case rel => exact ⟨pre, k + 1, m, by go_num, rfl, by omega, by omega, by omega, HG, hJs, hcell⟩
            case measure => simp [intOf]; omega
    · obtain rfl : k = s.size := by omega
      have hcutE : cut 0 [] s.data.toList = pre ++ [accT s.data.toList m s.size] := by
        have := hcut.out
        rw [List.drop_of_length_le (by rw [slen]; omega)] at this
        exact this
      have HC := Lib.hid hcutE
      obtain ⟨fn, tmps, assign, body, hy, hR⟩ := hY pre (accT s.data.toList m s.size) wr hJs (by omega) (accT_len s m s.size)
      rw [ext_rest] at hy
      have hm1 : (m : Int) ≤ s.size := by omega
      clear hcutE hcut
      gi_wp2
      refine hR.mono ?_
      rintro e W3 (⟨rfl, hJ3, hk3⟩ | ⟨rfl, hJx3⟩)
      · gi_wp2
        simp only [Exit.noGoto]
        go_end0
        exact ⟨⟨_, rfl⟩, .inl ⟨_, HC.out.symm, hJ3⟩⟩
      · gi_wp2
        simp only [Exit.noGoto]
        go_end0
        exact ⟨⟨_, rfl⟩, .inr ⟨_, by rw [HC.out]; exact List.prefix_refl _, hJx3⟩⟩
end Go.Proofs.YtdhioalfgogcdaaGreatDoor
