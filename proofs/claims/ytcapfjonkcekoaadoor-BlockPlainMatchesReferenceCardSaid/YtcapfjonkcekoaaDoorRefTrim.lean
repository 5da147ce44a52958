/- BlockSentencesMatchesReference: the reference's trimming. -/
import Derived.Test.YtcapfjonkcekoaaDoorBlkQ
namespace Go.Proofs.YtcapfjonkcekoaaDoor
open Go.RowKit Go.MapKept
set_option maxRecDepth 100000
set_option linter.unusedSimpArgs false
set_option linter.unusedVariables false
theorem tri_LR (l : List UInt8) : triR (triL l) = tri l := by
  obtain ⟨k, m, ⟨h0, h1⟩ | ⟨h0, h1⟩⟩ := split_tri l
  · rw [h0, h1]
    have := triL_sp k []
    rw [List.append_nil] at this
    rw [this]; rfl
  · obtain ⟨t1, t2, t3⟩ := h0
    have e : triL l = tri l ++ List.replicate m 32 := by
      conv => lhs; rw [h1]
      rw [List.append_assoc, triL_sp]
      apply triL_head
      cases ht : tri l with
      | nil => exact absurd ht t1
      | cons a y => rw [ht] at t2; simpa using t2
    rw [e, triR_spR, triR_last t3]
def szV : Value → Nat
  | .string s => s.size
  | _ => 0
/-- A text's first byte, as the walk reads it. -/
theorem front (x : List UInt8) (h : x ≠ []) : ∃ (r : ByteArray) (a : UInt8) (y : List UInt8) (h0 : 0 < r.size), r = ⟨x.toArray⟩ ∧ x = a :: y ∧ r[0] = a ∧ r.size = y.length + 1 ∧ r.toList.isEmpty = false ∧ r.extract 1 (y.length + 1) = ⟨y.toArray⟩ := by
  cases x with
  | nil => exact absurd rfl h
  | cons a y =>
    have hs : (⟨(a :: y).toArray⟩ : ByteArray).size = y.length + 1 := by rw [mk_size']; rfl
    exact ⟨_, a, y, by omega, rfl, rfl, by simp [ByteArray.getElem_eq_getElem_data], hs, by simp, bytes_ext (by rw [extract_toList]; simp)⟩
theorem back (x : List UInt8) (h : x ≠ []) : ∃ (r : ByteArray) (a : UInt8) (y : List UInt8) (h0 : y.length < r.size), r = ⟨x.toArray⟩ ∧ x = y ++ [a] ∧ r[y.length] = a ∧ r.size = y.length + 1 ∧ r.toList.isEmpty = false ∧ r.extract 0 y.length = ⟨y.toArray⟩ := by
  rcases List.eq_nil_or_concat x with rfl | ⟨y, a, rfl⟩
  · exact absurd rfl h
  · rw [List.concat_eq_append]
    have hs : (⟨(y ++ [a]).toArray⟩ : ByteArray).size = y.length + 1 := by rw [mk_size']; simp
    exact ⟨_, a, y, by omega, rfl, rfl, by simp [ByteArray.getElem_eq_getElem_data], hs, by simp, bytes_ext (by rw [extract_toList]; simp)⟩
set_option maxHeartbeats 8000000 in
theorem trimmed_any (s : ByteArray) (w : World) (hs : s.size ≤ 1000000) :
    Calls Tryd.prog 57 #[.string s] w fun x w' => x = .returned (.string ⟨(tri s.data.toList).toArray⟩) ∧ w = w' := by
  have HT := Lib.hid (tri_LR s.data.toList)
  go_enter Tryd.func57, Tryd.ntmps57
  go_wp2
  go_loopw [0] (fun v wr => ∃ x : List UInt8, v = .string ⟨x.toArray⟩ ∧ Hid (triL x = triL s.data.toList) ∧ x.length ≤ 1000000 ∧ wr = w) (fun v _ => szV v)
  case atStart => exact ⟨s.data.toList, by rw [← bytes_mk s], Lib.hid rfl, by rw [slen]; exact hs, rfl⟩
  case round =>
    obtain ⟨x, rfl, hx, hl, rfl⟩ := hrel
    have fin : x = [] ∨ (∃ a y, x = a :: y ∧ a ≠ 32) → triL x = x := by
      rintro (rfl | ⟨a, y, rfl, ha⟩)
      · rfl
      · exact triL_head (by simpa using ha)
    have L2 : ∀ u : ByteArray, u.data.toList = triL s.data.toList → u.size ≤ 1000000 → True := fun _ _ _ => trivial
    clear L2
    by_cases h0 : x = []
    · have HF := Lib.hid (fin (.inl h0))
      have HE := Lib.hid h0
      subst h0
      clear fin
      go_wp2
      go_loopw [0] (fun v wz => ∃ z : List UInt8, v = .string ⟨z.toArray⟩ ∧ Hid (triR z = triR ([] : List UInt8)) ∧ z.length ≤ 1000000 ∧ wz = wr) (fun v _ => szV v)
      case atStart => exact ⟨[], rfl, Lib.hid rfl, hl, rfl⟩
      case round =>
        obtain ⟨z, rfl, hz, hzl, rfl⟩ := hrel
        by_cases g0 : z = []
        · have HQ : Hid (z = tri s.data.toList) := Lib.hid (by rw [← HT.out, ← hx.out, HF.out, ← hz.out, g0]; rfl)
          subst g0
          go_wp2
          go_ret
          exact ⟨congrArg (fun l : List UInt8 => Ending.returned (.string ⟨l.toArray⟩)) HQ.out, rfl⟩
        · obtain ⟨q, b, y2, hq0, hq, hzb, hb, hqs, hqe, hqx⟩ := back z g0
          rw [← hq]
          have hy2 : y2.length + 1 ≤ 1000000 := by rw [hzb] at hzl; simp at hzl; omega
          have HQX := Lib.hid hqx
          have hw0 : IntKind.i64.wrap (y2.length : Int) = (y2.length : Int) := IntWalk.i64_in _ (by omega)
          have hm1 : (q.size : Int) - 1 = (y2.length : Int) := by omega
          have hw1 : IntKind.i64.wrap ((q.size : Int) - 1) = (y2.length : Int) := by rw [hm1]; exact hw0
          have hmr : (y2.length : Int) < (q.size : Int) := by omega
          have hmr2 : (y2.length : Int) ≤ (q.size : Int) := by omega
          by_cases k32 : b = 32
          · have e2 : (((q[y2.length].toNat : Nat) : Int) == 32) = true := by rw [hb, k32]; rfl
            have HZ : Hid (triR y2 = triR ([] : List UInt8)) := Lib.hid (by rw [← hz.out, hzb, triR_snoc, if_pos k32])
            have HQS := Lib.hid hqs
            clear g0 hb hzb hq k32 hz hqx hqs
            go_wp2
            go_roundw
            case rel => exact ⟨y2, by rw [HQX.out], HZ, by omega, trivial⟩
            case measure => rw [HQX.out]; simp only [szV]; rw [mk_size', HQS.out]; omega
          · have e2 : (((q[y2.length].toNat : Nat) : Int) == 32) = false := by
              rw [hb]
              have := u8_int b 32
              rw [show ((32 : UInt8).toNat : Int) = 32 from rfl] at this
              rw [this]; simp [k32]
            have HQ : Hid (z = tri s.data.toList) := Lib.hid (by rw [← HT.out, ← hx.out, HF.out, ← hz.out, hzb, triR_snoc, if_neg k32])
            have HR2 := Lib.hid hq
            clear g0 hb k32 hq hzb hqx HQX hqs
            go_wp2
            go_ret
            exact ⟨(congrArg (fun q => Ending.returned (.string q)) HR2.out).trans (congrArg (fun l : List UInt8 => Ending.returned (.string ⟨l.toArray⟩)) HQ.out), rfl⟩
    · obtain ⟨r, a, y, hr0, hr, hxa, ha, hrs, hre, hrx⟩ := front x h0
      rw [← hr]
      have hyl : y.length + 1 ≤ 1000000 := by rw [hxa] at hl; simp at hl; omega
      have HRX := Lib.hid hrx
      by_cases h32 : a = 32
      · have e1 : (((r[0].toNat : Nat) : Int) == 32) = true := by rw [ha, h32]; rfl
        have HX : Hid (triL y = triL s.data.toList) := Lib.hid (by rw [← hx.out, hxa, h32, triL_cons])
        have h1r : (1 : Int) ≤ r.size := by omega
        clear h0 fin ha hxa hr h32 hx hrx
        go_wp2
        go_roundw
        case rel => exact ⟨y, by rw [HRX.out], HX, by omega, trivial⟩
        case measure => rw [HRX.out]; simp only [szV]; rw [mk_size', hrs]; omega
      · have e1 : (((r[0].toNat : Nat) : Int) == 32) = false := by
          rw [ha]
          have := u8_int a 32
          rw [show ((32 : UInt8).toNat : Int) = 32 from rfl] at this
          rw [this]; simp [h32]
        have HF := Lib.hid (fin (.inr ⟨a, y, hxa, h32⟩))
        have HR := Lib.hid hr
        clear h0 fin ha h32 hr hxa hrx HRX
        go_wp2
        go_loopw [0] (fun v wz => ∃ z : List UInt8, v = .string ⟨z.toArray⟩ ∧ Hid (triR z = triR x) ∧ z.length ≤ 1000000 ∧ wz = wr) (fun v _ => szV v)
        case atStart => exact ⟨x, by rw [HR.out], Lib.hid rfl, hl, rfl⟩
        case round =>
          obtain ⟨z, rfl, hz, hzl, rfl⟩ := hrel
          by_cases g0 : z = []
          · have HQ : Hid (z = tri s.data.toList) := Lib.hid (by rw [← HT.out, ← hx.out, HF.out, ← hz.out, g0]; rfl)
            subst g0
            go_wp2
            go_ret
            exact ⟨congrArg (fun l : List UInt8 => Ending.returned (.string ⟨l.toArray⟩)) HQ.out, rfl⟩
          · obtain ⟨q, b, y2, hq0, hq, hzb, hb, hqs, hqe, hqx⟩ := back z g0
            rw [← hq]
            have hy2 : y2.length + 1 ≤ 1000000 := by rw [hzb] at hzl; simp at hzl; omega
            have HQX := Lib.hid hqx
            have hw0 : IntKind.i64.wrap (y2.length : Int) = (y2.length : Int) := IntWalk.i64_in _ (by omega)
            have hm1 : (q.size : Int) - 1 = (y2.length : Int) := by omega
            have hw1 : IntKind.i64.wrap ((q.size : Int) - 1) = (y2.length : Int) := by rw [hm1]; exact hw0
            have hmr : (y2.length : Int) < (q.size : Int) := by omega
            have hmr2 : (y2.length : Int) ≤ (q.size : Int) := by omega
            by_cases k32 : b = 32
            · have e2 : (((q[y2.length].toNat : Nat) : Int) == 32) = true := by rw [hb, k32]; rfl
              have HZ : Hid (triR y2 = triR x) := Lib.hid (by rw [← hz.out, hzb, triR_snoc, if_pos k32])
              have HQS := Lib.hid hqs
              clear g0 hb hzb hq k32 hz hqx hqs
              go_wp2
              go_roundw
              case rel => exact ⟨y2, by rw [HQX.out], HZ, by omega, trivial⟩
              case measure => rw [HQX.out]; simp only [szV]; rw [mk_size', HQS.out]; omega
            · have e2 : (((q[y2.length].toNat : Nat) : Int) == 32) = false := by
                rw [hb]
                have := u8_int b 32
                rw [show ((32 : UInt8).toNat : Int) = 32 from rfl] at this
                rw [this]; simp [k32]
              have HQ : Hid (z = tri s.data.toList) := Lib.hid (by rw [← HT.out, ← hx.out, HF.out, ← hz.out, hzb, triR_snoc, if_neg k32])
              have HR2 := Lib.hid hq
              clear g0 hb k32 hq hzb hqx HQX hqs
              go_wp2
              go_ret
              exact ⟨(congrArg (fun q => Ending.returned (.string q)) HR2.out).trans (congrArg (fun l : List UInt8 => Ending.returned (.string ⟨l.toArray⟩)) HQ.out), rfl⟩
end Go.Proofs.YtcapfjonkcekoaaDoor
