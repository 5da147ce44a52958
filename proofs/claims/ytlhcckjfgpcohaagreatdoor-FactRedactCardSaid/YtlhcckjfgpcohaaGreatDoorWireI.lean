/- Package wire: what PutInt, Int, PutString and String return, for all arguments. -/
import Derived.Test.YtlhcckjfgpcohaaGreatDoorProg
import Derived.Test.YtlhcckjfgpcohaaGreatDoorWireP
import Derived.Test.YtlhcckjfgpcohaaGreatDoorBld
import Derived.Test.YtlhcckjfgpcohaaGreatDoorClone
import Derived.Test.YtlhcckjfgpcohaaGreatDoorGen
import Derived.RangeFuncNested
import Derived.RangeFuncBound
import Derived.RangeFuncCalls
import Derived.RangeFuncLeaves
import Derived.Shelf.Abstract
import Derived.Shelf.RegionOpen
import Derived.WalkKit
import Derived.OwnWalkIn
import Derived.TacticsInMore
import Derived.LoopNIn
import Derived.LoopIn
import Derived.Laws.BitsAllLaws
import Derived.Lib.Hide
namespace Go.Proofs.YtlhcckjfgpcohaaGreatDoor
set_option maxRecDepth 100000
open Go.RowKit Go.Shelf
attribute [local go_sem] Oper.semAt_some
set_option maxHeartbeats 400000 in
theorem encodable_any (n : Int) (w : World) :
    Calls Tryz.prog 176 #[.int .i64 n] w fun e w' => e = .returned (.bool (okInt n)) ∧ w = w' := by
  by_cases h1 : -4611686018427387903 ≤ n <;> by_cases h2 : n ≤ 4611686018427387903
  all_goals
    go_enter Tryz.func176, Tryz.ntmps176
    go_wp2
    go_ret
    exact ⟨ret_bool (by simp [okInt]; omega), rfl⟩
set_option maxHeartbeats 400000 in
theorem fold_any (n : Int) (w : World) (h1 : -4611686018427387903 ≤ n) (h2 : n ≤ 4611686018427387903) :
    Calls Tryz.prog 178 #[.int .i64 n] w fun e w' => e = .returned (.int .i64 (zz n)) ∧ w = w' := by
  by_cases hc : n < 0
  · go_enter Tryz.func178, Tryz.ntmps178
    go_wp2
    go_ret
    exact ⟨ret_int (by simp [zz, hc]), rfl⟩
  · go_enter Tryz.func178, Tryz.ntmps178
    go_wp2
    go_ret
    exact ⟨ret_int (by simp [zz]; omega), rfl⟩
set_option maxHeartbeats 400000 in
theorem unfold_any (z : Int) (w : World) (h1 : 0 ≤ z) (h2 : z ≤ 9223372036854775807) :
    Calls Tryz.prog 195 #[.int .i64 z] w fun e w' => e = .returned (.int .i64 (unzz z)) ∧ w = w' := by
  by_cases hc : z % 2 = 1
  · go_enter Tryz.func195, Tryz.ntmps195
    go_wp2
    go_ret
    exact ⟨ret_int (by simp [unzz, hc]), rfl⟩
  · go_enter Tryz.func195, Tryz.ntmps195
    go_wp2
    go_ret
    exact ⟨ret_int (by simp [unzz, hc]), rfl⟩
theorem groups_any (F : Fence) (n : Nat) (h5 : F.fn 177) (hro : F.round = none) (z : Int) (w : World) :
    CallsIn F n Tryz.prog 177 #[.int .i64 z] w fun e w' => e = .returned (.func (.func 181) #[] #[.pointer (some ⟨w.heap.size, 0, none⟩)]) ∧ w' = w.alloc (.cells #[.int .i64 z] 3) := by
  refine callsIn_of_wp Tryz.func177 rfl h5 ?_ hro
  simp only [Tryz.ntmps177, List.size_toArray, List.length_cons, List.length_nil, Nat.reduceAdd, Nat.reduceSub, Array.replicate_succ, Array.replicate_zero, List.push_toArray, List.append_toArray, List.nil_append, List.cons_append]
  gi_wp2
  go_ret
  exact ⟨rfl, rfl⟩
theorem ofInt_i64n (a : Nat) (ha : a < 9223372036854775808) : (BitVec.ofInt 64 (a : Int)).toNat = a := by
  rw [BitVec.ofInt_natCast, BitVec.toNat_ofNat]; exact Nat.mod_eq_of_lt (by omega)
theorem wrap_i64n (a : Nat) (ha : a < 9223372036854775808) : IntKind.i64.wrap (a : Int) = a := by
  simp [IntKind.wrap, IntKind.bits, IntKind.signed]; omega
theorem i64_and_nat (a b : Nat) (ha : a < 9223372036854775808) (hb : b < 9223372036854775808) : bits .and .i64 (a : Int) (b : Int) = ((a &&& b : Nat) : Int) := by
  have hx : a &&& b < 2 ^ 63 := Nat.and_lt_two_pow _ (by omega)
  show IntKind.i64.wrap ((BitVec.ofInt 64 (a : Int) &&& BitVec.ofInt 64 (b : Int)).toNat : Int) = _
  rw [BitVec.toNat_and, ofInt_i64n a ha, ofInt_i64n b hb, wrap_i64n _ (by omega)]
theorem i64_or_nat (a b : Nat) (ha : a < 9223372036854775808) (hb : b < 9223372036854775808) : bits .or .i64 (a : Int) (b : Int) = ((a ||| b : Nat) : Int) := by
  have hx : a ||| b < 2 ^ 63 := Nat.or_lt_two_pow (by omega) (by omega)
  show IntKind.i64.wrap ((BitVec.ofInt 64 (a : Int) ||| BitVec.ofInt 64 (b : Int)).toNat : Int) = _
  rw [BitVec.toNat_or, ofInt_i64n a ha, ofInt_i64n b hb, wrap_i64n _ (by omega)]
theorem and127 (v : Nat) (hv : v < 9223372036854775808) : bits .and .i64 (v : Int) 127 = (v : Int) % 128 := by
  have := i64_and_nat v 127 hv (by decide)
  rw [nat_mask7] at this
  rw [show (127 : Int) = ((127 : Nat) : Int) from rfl, this]; omega
theorem or128 (v : Nat) : bits .or .i64 ((v : Int) % 128) 128 = (v : Int) % 128 + 128 := by
  have := i64_or_nat (v % 128) 128 (by omega) (by decide)
  rw [Nat.or_comm, nat_join 7 128 (v % 128) (by decide) (by omega)] at this
  rw [show (v : Int) % 128 = ((v % 128 : Nat) : Int) by omega, show (128 : Int) = ((128 : Nat) : Int) from rfl, this]; omega
theorem byteOf (z : Nat) : (IntKind.u8.wrap (z : Int)) = (((UInt8.ofNat z).toNat : Nat) : Int) := by
  simp [IntKind.wrap, IntKind.bits, IntKind.signed]
set_option maxRecDepth 100000 in
set_option maxHeartbeats 1000000 in
theorem groups1_in (F : Fence) (n : Nat) (h6 : F.fn 181) (hro : F.round = none) (hn : 1 ≤ n) (l Bn z : Nat) (hz : z < 9223372036854775808) (J Jx : List UInt8 → World → Prop)
    (hY : ∀ pre x W, J pre W → pre.length < 9 → YieldAt F (n - 1) Tryz.prog l #[.int .u8 ((x : UInt8).toNat : Int)] W fun e W' =>
      (e = .returned (.bool true) ∧ J (pre ++ [x]) W' ∧ KeepsWalks W W') ∨ (e = .returned (.bool false) ∧ Jx (pre ++ [x]) W'))
    (W : World) (hBn : W.cell? ⟨Bn, 0, none⟩ = some (.int .i64 (z : Int))) (h0 : J [] W) :
    CallsIn F n Tryz.prog 181 #[.func (.yield l) #[] #[], .pointer (some ⟨Bn, 0, none⟩)] W fun e W' => (∃ v, e = .returned v) ∧
      ((∃ ys, ys = enc 8 z ∧ J ys W') ∨ (∃ pre, pre <+: enc 8 z ∧ Jx pre W')) := by
  refine callsIn_of_wp Tryz.func181 rfl h6 ?_ hro
  simp only [Tryz.ntmps181, List.size_toArray, List.length_cons, List.length_nil, Nat.reduceAdd, Nat.reduceSub, Array.replicate_succ, Array.replicate_zero, List.push_toArray, List.append_toArray, List.nil_append, List.cons_append]
  gi_wp2
  gi_loopw [3] (fun p wr => ∃ (pre : List UInt8) (k v : Nat), p = .int .i64 (v : Int) ∧ enc 8 z = pre ++ enc k v ∧ v < 128 ^ (k + 1) ∧ pre.length + k = 8 ∧ J pre wr)
    (fun p wr => (intOf p).toNat)
  case atStart =>
    exact ⟨[], 8, z, rfl, rfl, hz, rfl, h0⟩
  case round =>
    obtain ⟨pre, k, v, rfl, hx, hv, hpk, hJs⟩ := hrel
    have hv63 : v < 9223372036854775808 := by
      have : 128 ^ (k + 1) ≤ 128 ^ 9 := Nat.pow_le_pow_right (by omega) (by omega)
      omega
    by_cases hb : 127 < v
    · cases k with
      | zero => simp at hv; omega
      | succ k =>
        have ha := and127 v hv63
        have ho := or128 v
        have hm : ((v : Int) % 128 + 128) % 256 = (v : Int) % 128 + 128 := by omega
        have hbb : (((UInt8.ofNat (v % 128 + 128)).toNat : Nat) : Int) = (v : Int) % 128 + 128 := by
          rw [UInt8.toNat_ofNat']; omega
        have e8 : enc (k + 1) v = UInt8.ofNat (v % 128 + 128) :: enc k (v / 128) := by rw [enc, if_neg (by omega)]
        have hxx := hx
        rw [e8] at hxx
        clear e8
        obtain ⟨fn, tmps, assign, body, hy, hR⟩ := hY pre (UInt8.ofNat (v % 128 + 128)) wr hJs (by omega)
        rw [hbb] at hy
        have HX := Lib.hid hxx
        clear hxx hx hbb
        generalize hb8 : UInt8.ofNat (v % 128 + 128) = b8 at *
        clear hb8
        gi_wp2
        refine hR.mono ?_
        rintro e W3 (⟨rfl, hJ3, hk3⟩ | ⟨rfl, hJx3⟩)
        · gi_wp2
          go_roundw
          case rel => exact ⟨pre ++ [b8], k, v / 128, by simp, by rw [HX.out]; simp, by rw [Nat.div_lt_iff_lt_mul (by omega)]; rw [Nat.pow_succ] at hv; exact hv, by simp; omega, hJ3⟩
          case measure => simp [intOf]; omega
        · gi_wp2
          refine bodyPost_ret (results_none rfl _ _ _) rfl ?_
          exact ⟨⟨_, rfl⟩, .inr ⟨pre ++ [b8], ⟨enc k (v / 128), by rw [HX.out]; simp⟩, hJx3⟩⟩
    · have hb' : v ≤ 127 := by omega
      have hm : (v : Int) % 256 = v := by omega
      have hbb : (((UInt8.ofNat v).toNat : Nat) : Int) = (v : Int) := by
        rw [UInt8.toNat_ofNat']; omega
      have hxx : enc 8 z = pre ++ [UInt8.ofNat v] := by
        rw [hx]
        cases k with
        | zero => rfl
        | succ k => rw [enc, if_pos hb']
      obtain ⟨fn, tmps, assign, body, hy, hR⟩ := hY pre (UInt8.ofNat v) wr hJs (by omega)
      rw [hbb] at hy
      have HX := Lib.hid hxx
      clear hxx hx hbb
      generalize hb8 : UInt8.ofNat v = b8 at *
      clear hb8
      gi_wp2
      refine hR.mono ?_
      rintro e W3 (⟨rfl, hJ3, hk3⟩ | ⟨rfl, hJx3⟩)
      · gi_wp2
        go_end0
        exact ⟨⟨_, rfl⟩, .inl ⟨pre ++ [b8], HX.out.symm, hJ3⟩⟩
      · gi_wp2
        go_end0
        exact ⟨⟨_, rfl⟩, .inr ⟨pre ++ [b8], by rw [HX.out]; exact List.prefix_refl _, hJx3⟩⟩
theorem groups_stops (F : Fence) (n : Nat) (h6 : F.fn 181) (hro : F.round = none) (hn : 1 ≤ n) (Bn z : Nat) (hz : z < 9223372036854775808) (w : World) (hBn : Bn < w.heap.size)
    (hc : w.cell? ⟨Bn, 0, none⟩ = some (.int .i64 (z : Int))) :
    SeqStopsK F n Tryz.prog 181 #[.pointer (some ⟨Bn, 0, none⟩)] (fun x : UInt8 => #[Value.int .u8 (x.toNat : Int)]) KeepsWalks (fun ys => ys = enc 8 z) (fun pre => pre <+: enc 8 z) 9 w := fun l J Jx W hW _ _ hY h0 =>
  groups1_in F n h6 hro hn l Bn z hz J Jx hY W ((hW.cell (p := ⟨Bn, 0, none⟩) hBn).trans hc) h0
theorem ownsRowF_own {W W' : World} {row : Option Nat} {B e n : Nat} {v : Value} {xs : List Value} (h : W.ownsRowF B e 1 v n xs) (hg : W.grownBy W' row) (hr : ∀ r, row = some r → ∃ o : Obj, W.heap[r]? = some o ∧ o.isCells = false) : W'.ownsRowF B e 1 v n xs := by
  obtain ⟨h1, h2⟩ := h
  refine ⟨h1, ?_⟩
  rcases h2 with h2 | ⟨g, cap, cur, fz, hv, hBg, hh, rest⟩
  · exact .inl h2
  · exact .inr ⟨g, cap, cur, fz, hv, hBg, (grownBy_keeps_cells hg hr hh rfl).trans hh, rest⟩
theorem isBuilderF_own (T e B b : Nat) : Own (fun (pre : List UInt8) W => Lib.IsBuilderF T e B b (Lib.byteCells pre) W) := by
  intro s W W' row h hg hr
  rcases h with ⟨hB, v, hb, hown, hne⟩ | ⟨hB, v, hb, hown, hne⟩
  · exact .inl ⟨hB, v, (grownBy_keeps_cells hg hr hb rfl).trans hb, ownsRowF_own hown hg hr, hne⟩
  · exact .inr ⟨hB, v, (grownBy_keeps_cells hg hr hb rfl).trans hb, ownsRowF_own hown hg hr, hne⟩
theorem builder_cells {T e B b : Nat} {bs : List Value} {W : World} (h : Lib.IsBuilderF T e B b bs W) : ∃ o : Obj, W.heap[b]? = some o ∧ o.isCells = true := by
  rcases h with ⟨hB, v, hb, _⟩ | ⟨hB, v, hb, _⟩
  · exact ⟨_, hb, rfl⟩
  · exact ⟨_, hb, rfl⟩
theorem keepsOthers_of {T e B b : Nat} {bs : List Value} {W W' : World} (h : Lib.IsBuilderF T e B b bs W) (hb : Below B W W') (hk : Lib.OthersKept e (some b) W W') : KeepsOthers W W' := by
  obtain ⟨ob, hob, hcb⟩ := builder_cells h
  refine ⟨hb.size, fun k o hko ho => hk k o hko ?_ ?_⟩
  · intro e1
    cases e1
    rw [hob] at hko; cases hko
    rw [hcb] at ho; cases ho
  · intro c fz e1
    subst e1
    cases ho
theorem byteCells_snoc (l : List UInt8) (x : UInt8) : Lib.byteCells (l ++ [x]) = Lib.byteCells l ++ [.int .u8 (x.toNat : Int)] := by simp [Lib.byteCells]
theorem encInt_eq (n : Int) (z : Nat) (h : zz n = z) : encInt n = enc 8 z := by unfold encInt; rw [h]; rfl
set_option maxRecDepth 100000 in
set_option maxHeartbeats 2000000 in
theorem putInt_no (n : Int) (w : World) (h : okInt n = false) :
    Calls Tryz.prog 172 #[.int .i64 n] w fun e w' => e = .returned (.tuple #[.string ⟨#[]⟩, .int .i64 10]) ∧ w = w' := by
  go_enter Tryz.func172, Tryz.ntmps172
  go_wp2_with (go_at_call 176; refine (encodable_any n _).mono ?_; rintro e w' ⟨rfl, rfl⟩; rw [h])
  go_ret2
  exact ⟨rfl, rfl⟩
set_option maxRecDepth 100000 in
set_option maxHeartbeats 2000000 in
theorem putInt_yes (n : Int) (w : World) (h : okInt n = true) :
    Calls Tryz.prog 172 #[.int .i64 n] w fun e w' => e = .returned (.tuple #[.string ⟨(encInt n).toArray⟩, .int .i64 0]) ∧ Below w.heap.size w w' := by
  have hb := (okInt_iff n).1 h
  have hzl := zz_lt n hb.1 hb.2
  obtain ⟨z, hz⟩ : ∃ z : Nat, zz n = z := ⟨(zz n).toNat, (Int.toNat_of_nonneg (zz_nonneg n)).symm⟩
  rw [encInt_eq n z hz]
  rw [hz] at hzl
  have HZ := Lib.hid hz
  clear hz
  refine (callsIn_wide (n := 6)).1 ?_
  refine callsIn_of_wp_marks Tryz.func172 rfl trivial ?_ rfl
  simp only [Tryz.ntmps172, List.size_toArray, List.length_cons, List.length_nil, Nat.reduceAdd, Nat.reduceSub, Array.replicate_succ, Array.replicate_zero, List.push_toArray, List.append_toArray, List.nil_append, List.cons_append]
  gi_wp2_with (refine ⟨trivial, ?_⟩; gi_at_call 176; refine (callsIn_wide.2 (encodable_any n _)).mono ?_; rintro e w' ⟨rfl, rfl⟩; rw [h])
  gi_wp2_with (refine ⟨trivial, ?_⟩; gi_at_call 178; refine (callsIn_wide.2 (fold_any n _ hb.1 hb.2)).mono ?_; rintro e w' ⟨rfl, rfl⟩; rw [HZ.out])
  gi_wp2_with (refine ⟨trivial, ?_⟩; gi_at_call 177; refine (groups_any Fence.wide _ trivial rfl _ _).mono ?_; rintro e w' ⟨rfl, rfl⟩)
  have hc : ((w.alloc (.cells #[.pointer none, .slice none 0 0] 54)).alloc (.cells #[.int .i64 (z : Int)] 3)).cell? ⟨w.heap.size + 1, 0, none⟩ = some (.int .i64 (z : Int)) := by simp
  have hB0 : Lib.IsBuilderF 54 5 w.heap.size w.heap.size (Lib.byteCells []) (w.alloc (.cells #[.pointer none, .slice none 0 0] 54)) := Lib.IsBuilderF.of (Lib.fresh_isBuilder 54 5 w)
  have hown := isBuilderF_own 54 5 w.heap.size w.heap.size
  refine wpIn_rangeFunc_ownF rfl (by omega) (gf := 181) (lb := #[.pointer (some ⟨w.heap.size + 1, 0, none⟩)]) rfl trivial (enters_of Tryz.func181 (by kernel_rfl) rfl)
    (groups_stops Fence.wide _ trivial rfl (by omega) (w.heap.size + 1) z (by omega) _ (by simp) hc) walksK_t walksK_b (Below.refl _ _) (fun _ => rfl)
    (fun pre W => Lib.IsBuilderF 54 5 w.heap.size w.heap.size (Lib.byteCells pre) W ∧ Below w.heap.size w W)
    (fun _ _ _ => False)
    (OwnFrom.and (Own.from hown _) (ownFrom_below (Nat.le_refl _) (by simp; omega)))
    (fun _ _ _ _ _ hs _ _ => hs)
    ⟨hown.alloc (s := []) _ hB0, ((Below.refl _ w).alloc (Nat.le_refl _) _).alloc (by simp) _⟩
    (fun x => { tmps := #[.int .i64 n, undef, .string ⟨#[]⟩, .int .i64 0, .pointer (some ⟨w.heap.size, 0, none⟩), .int .u8 (x.toNat : Int), .int .i64 n, .bool true, .bool false, .int .i64 n, .int .i64 z, .func (.func 181) #[] #[.pointer (some ⟨w.heap.size + 1, 0, none⟩)], .int .u8 (x.toNat : Int), undef, undef, undef], defers := [] }) ?assign ?body ?done ?stop
  case assign =>
    intro l x W K hK
    gi_wp2
    exact hK
  case body =>
    rintro l pre x W ⟨hI, hB⟩ hlt
    have hsz := hB.size
    have hl : (Lib.byteCells pre).length + 1 ≤ 140737488355328 := by rw [Lib.byteCells_length]; omega
    gi_wp2_with (refine ⟨trivial, ?_⟩; gi_at_call 179; refine (CallsIn.inRound l (callsIn_wide.2 (writeByte_any w.heap.size w.heap.size _ _ W hI hl hsz))).mono ?_; rintro e w' ⟨rfl, h1, hb1, hk1⟩)
    rw [← byteCells_snoc] at h1
    exact ⟨keepsOthers_of hI hb1 hk1, (keepsOthers_of hI hb1 hk1).walks, h1, hB.trans hb1⟩
  case done =>
    rintro D ys W hD rfl ⟨hI, hB⟩ hK
    have hsz := hB.size
    gi_wp2_with (refine ⟨trivial, ?_⟩; gi_at_call 22; refine (callsIn_wide.2 (bldString w.heap.size w.heap.size _ W hI hsz)).mono ?_; rintro e w' ⟨rfl, h1, hb1, hk1⟩)
    have hK' := (keepsOthers_of hI hb1 hk1).same D _ hK rfl
    refine ⟨by simp, .inl ⟨_, _, rfl, run_takeDeferred hK', ?_⟩⟩
    refine ⟨_, results_tmp2 rfl _ _ _, rfl, (hB.trans hb1).trans ?_⟩
    exact belowK_b (w := w) (Nat.le_refl _) _ D _ _ (by simp at hD; omega) hK' rfl rfl
  case stop =>
    rintro D c pre W _ _ h _
    exact h.elim
theorem bytes_drop (s : ByteArray) (k : Nat) (h : k < s.size) : s.data.toList.drop k = s[k] :: s.data.toList.drop (k + 1) := by
  rw [List.drop_eq_getElem_cons (by simpa using h)]; rfl
theorem group_lt (zn k b : Nat) (hzn : zn < 128 ^ k) : zn + b % 128 * 128 ^ k < 128 ^ (k + 1) := by
  have h1 : b % 128 ≤ 127 := by omega
  have h2 : b % 128 * 128 ^ k ≤ 127 * 128 ^ k := Nat.mul_le_mul_right _ h1
  rw [Nat.pow_succ]
  omega
theorem pow_le9 (k : Nat) (hk : k < 9) : 128 ^ (k + 1) ≤ 9223372036854775808 := by
  have : 128 ^ (k + 1) ≤ 128 ^ 9 := Nat.pow_le_pow_right (by omega) (by omega)
  omega
theorem or_group (zn k b : Nat) (hzn : zn < 128 ^ k) (hk : k < 9) : bits BinOp.or IntKind.i64 (zn : Int) (wrap64 ((b : Int) % 128 * 2 ^ (7 * k))) = ((zn + b % 128 * 128 ^ k : Nat) : Int) := by
  have e : (2 : Nat) ^ (7 * k) = 128 ^ k := by rw [Nat.pow_mul]
  have h1 := group_lt zn k b hzn
  have h2 := pow_le9 k hk
  have h3 : ((b : Int) % 128 * 2 ^ (7 * k)) = ((b % 128 * 2 ^ (7 * k) : Nat) : Int) := by simp
  rw [h3, e, IntWalk.wrap64_in _ ⟨by omega, by omega⟩, i64_or_nat _ _ (by omega) (by omega), Nat.or_comm, ← e, nat_join (7 * k) _ _ (by simp) (by rw [e]; exact hzn), Nat.add_comm]
theorem or_group0 (zn b : Nat) (hzn : zn < 128 ^ 0) : bits BinOp.or IntKind.i64 (zn : Int) ((b : Int) % 128) = ((zn + b % 128 * 128 ^ 0 : Nat) : Int) := by
  have := or_group zn 0 b hzn (by omega)
  rw [show (b : Int) % 128 * 2 ^ (7 * 0) = (b : Int) % 128 by simp, IntWalk.wrap64_in _ ⟨by omega, by omega⟩] at this
  exact this
set_option maxRecDepth 100000 in
set_option maxHeartbeats 400000 in
theorem joined_any (s : ByteArray) (w : World) (hs : s.size ≤ maxLen) :
    Calls Tryz.prog 194 #[.string s] w fun e w' => e = .returned (.tuple #[.int .i64 ((dcd s.data.toList).1 : Int), .int .i64 ((dcd s.data.toList).2 : Int)]) ∧ w = w' := by
  unfold maxLen at hs
  go_enter Tryz.func194, Tryz.ntmps194
  go_wp2
  go_loop [4, 5] (fun z i => ∃ k zn : Nat, k ≤ s.size ∧ k ≤ 9 ∧ i = .int .i64 k ∧ z = .int .i64 zn ∧ zn < 128 ^ k ∧ jn (9 - k) k zn (s.data.toList.drop k) = dcd s.data.toList) (fun _ i => 9 - (intOf i).toNat)
  case atStart => exact ⟨0, 0, Nat.zero_le _, Nat.zero_le _, rfl, rfl, by simp, rfl⟩
  case round =>
    obtain ⟨k, zn, hk, hk9, rfl, rfl, hzn, hj⟩ := hrel
    by_cases hlt : k < s.size
    · by_cases h9 : k < 9
      · have hbt : (s[k]).toNat < 256 := (s[k]).toNat_lt
        have ha := and127 (s[k]).toNat (by omega)
        have hor := or_group zn k (s[k]).toNat hzn h9
        have hgl := group_lt zn k (s[k]).toNat hzn
        have HG := Lib.hid hgl
        rw [bytes_drop s k hlt] at hj
        obtain ⟨m, hm⟩ : ∃ m, 9 - k = m + 1 := ⟨8 - k, by omega⟩
        have hm' : m = 9 - (k + 1) := by omega
        rw [hm, jn, hm'] at hj
        by_cases hb : 128 ≤ (s[k]).toNat
        · rw [if_pos hb] at hj
          have HJ := Lib.hid hj
          have HO := Lib.hid hor
          clear hj hm hm' hor hgl
          go_wp2
          exact ⟨⟨k + 1, _, by omega, by omega, by go_num, by rw [HO.out], HG.out, HJ.out⟩, by simp [intOf]; omega⟩
        · rw [if_neg hb] at hj
          by_cases hz : (s[k]).toNat = 0 ∧ 0 < k
          · rw [if_pos hz] at hj
            have h0 := hz.1
            have HJ := Lib.hid hj
            have hz0 : (((s[k]).toNat : Int) == 0) = true := by simp [h0]
            have hk0 : ((0 : Nat) : Int) < (k : Int) := by omega
            clear hj hm hm' hor hgl hz h0
            go_wp2
            go_ret2
            rw [← HJ.out]
            exact ⟨rfl, rfl⟩
          · rw [if_neg hz] at hj
            have HJ := Lib.hid hj
            have HO := Lib.hid hor
            clear hj hm hm' hor hgl
            by_cases h0 : (s[k]).toNat = 0
            · have hk0 : k = 0 := by omega
              subst hk0
              have hz0 : (((s[0]).toNat : Int) == 0) = true := by simp [h0]
              clear h0 hz
              go_wp2
              go_ret2
              rw [← HJ.out]
              exact ⟨ret_ii (or_group0 _ _ hzn) rfl, rfl⟩
            · have hz0 : (((s[k]).toNat : Int) == 0) = false := by simp [h0]
              clear h0 hz
              go_wp2
              go_ret2
              rw [← HJ.out]
              exact ⟨ret_ii HO.out (by simp), rfl⟩
      · obtain rfl : k = 9 := by omega
        have HJ := Lib.hid hj
        clear hj
        go_wp2
        go_ret2
        rw [← HJ.out]
        exact ⟨rfl, rfl⟩
    · obtain rfl : k = s.size := by omega
      have hjj : dcd s.data.toList = (0, 0) := by
        rw [← hj, List.drop_of_length_le (by simp)]
        cases 9 - s.size <;> rfl
      have HJ := Lib.hid hjj
      clear hj hjj
      go_wp2
      go_ret2
      rw [HJ.out]
      exact ⟨rfl, rfl⟩
def intAt (l : List UInt8) (at' : Int) : Int × Int × Int :=
  if at' < 0 ∨ (l.length : Int) < at' then (0, 0, 2)
  else if good (l.drop at'.toNat) then (unzz (dcd (l.drop at'.toNat)).1, at' + (dcd (l.drop at'.toNat)).2, 0) else (0, 0, 10)
theorem dcd_lt (l : List UInt8) : (dcd l).1 < 9223372036854775808 := by
  by_cases h : (dcd l).2 = 0
  · have : dcd l = (0, 0) := jn_zero 9 0 0 l h
    rw [this]; decide
  · exact (dcd_some l h).1
set_option maxHeartbeats 1000000 in
theorem int_any (s : ByteArray) (at' : Int) (w : World) (hs : s.size ≤ maxLen) :
    Calls Tryz.prog 190 #[.string s, .int .i64 at'] w fun e w' => e = .returned (.tuple #[.int .i64 (intAt s.data.toList at').1, .int .i64 (intAt s.data.toList at').2.1, .int .i64 (intAt s.data.toList at').2.2]) ∧ w = w' := by
  have hsl : (s.data.toList.length : Int) = s.size := by simp
  by_cases hneg : at' < 0
  · have hi : intAt s.data.toList at' = (0, 0, 2) := by unfold intAt; rw [if_pos (.inl hneg)]
    rw [hi]
    clear hi
    go_enter Tryz.func190, Tryz.ntmps190
    go_wp2
    go_ret3
    exact ⟨rfl, rfl⟩
  · by_cases hbig : (s.size : Int) < at'
    · have hi : intAt s.data.toList at' = (0, 0, 2) := by unfold intAt; rw [if_pos (.inr (by omega))]
      rw [hi]
      clear hi
      go_enter Tryz.func190, Tryz.ntmps190
      go_wp2
      go_ret3
      exact ⟨rfl, rfl⟩
    · obtain ⟨k, rfl⟩ := Int.eq_ofNat_of_zero_le (show 0 ≤ at' by omega)
      have hex : (s.extract k s.size).data.toList = s.data.toList.drop k := by rw [extract_toList]; rw [List.take_of_length_le (by simp)]
      have hes : (s.extract k s.size).size ≤ maxLen := by unfold maxLen at *; simp; omega
      have hj := joined_any (s.extract k s.size) w hes
      rw [hex] at hj
      have hlt := dcd_lt (s.data.toList.drop k)
      have h9 := dcd_le (s.data.toList.drop k)
      simp only [List.length_drop, Array.length_toList] at h9
      rw [ByteArray.size_data] at h9
      have hi : intAt s.data.toList (k : Int) = if good (s.data.toList.drop k) then (unzz (dcd (s.data.toList.drop k)).1, (k : Int) + (dcd (s.data.toList.drop k)).2, 0) else (0, 0, 10) := by
        unfold intAt; rw [if_neg (by omega)]; simp
      rw [hi]
      unfold good
      clear hex hes hsl hi
      generalize dcd (s.data.toList.drop k) = D at *
      obtain ⟨z, m⟩ := D
      simp only at hj hlt h9 ⊢
      have HJ := Lib.hid hj
      clear hj
      unfold maxLen at hs
      have hkm : k + m ≤ s.size := by omega
      by_cases hm : m = 0
      · subst hm
        go_enter Tryz.func190, Tryz.ntmps190
        go_wp2_with fail
        refine (HJ.out).mono ?_
        rintro e w' ⟨rfl, rfl⟩
        go_wp2_with fail
        refine (unfold_any z w (by omega) (by omega)).mono ?_
        rintro e w' ⟨rfl, rfl⟩
        go_wp2
        go_ret3
        exact ⟨rfl, rfl⟩
      · have hm0 : ((m : Int) == 0) = false := by simp [hm]
        have hm1 : (m != 0) = true := by simp [hm]
        cases ho : okInt (unzz (z : Int))
        · rw [hm1]
          clear hm hm1
          go_enter Tryz.func190, Tryz.ntmps190
          go_wp2_with fail
          refine (HJ.out).mono ?_
          rintro e w' ⟨rfl, rfl⟩
          go_wp2_with fail
          refine (unfold_any z w (by omega) (by omega)).mono ?_
          rintro e w' ⟨rfl, rfl⟩
          go_wp2_with fail
          refine (encodable_any _ w).mono ?_
          rintro e w' ⟨rfl, rfl⟩
          rw [ho]
          go_wp2
          go_ret3
          exact ⟨rfl, rfl⟩
        · rw [hm1]
          clear hm hm1
          go_enter Tryz.func190, Tryz.ntmps190
          go_wp2_with fail
          refine (HJ.out).mono ?_
          rintro e w' ⟨rfl, rfl⟩
          go_wp2_with fail
          refine (unfold_any z w (by omega) (by omega)).mono ?_
          rintro e w' ⟨rfl, rfl⟩
          go_wp2_with fail
          refine (encodable_any _ w).mono ?_
          rintro e w' ⟨rfl, rfl⟩
          rw [ho]
          go_wp2
          go_ret3
          exact ⟨rfl, rfl⟩

set_option maxHeartbeats 400000 in
theorem putStr_no (s : ByteArray) (w : World) (h : 65536 < s.size) (hs : s.size ≤ maxLen) :
    Calls Tryz.prog 173 #[.string s] w fun e w' => e = .returned (.tuple #[.string ⟨#[]⟩, .int .i64 10]) ∧ w = w' := by
  unfold maxLen at hs
  go_enter Tryz.func173, Tryz.ntmps173
  go_wp2
  go_ret2
  exact ⟨rfl, rfl⟩
set_option maxHeartbeats 400000 in
theorem putStr_yes (s : ByteArray) (w : World) (h : s.size ≤ 65536) :
    Calls Tryz.prog 173 #[.string s] w fun e w' => e = .returned (.tuple #[.string ((⟨(encInt s.size).toArray⟩ : ByteArray) ++ s), .int .i64 0]) ∧ Below w.heap.size w w' := by
  have hl : (encInt s.size).length ≤ 9 := enc_len _ _
  go_enter Tryz.func173, Tryz.ntmps173
  go_wp2_with fail
  refine (putInt_yes s.size w (by rw [okInt_iff]; omega)).mono ?_
  rintro e w' ⟨rfl, hb⟩
  go_wp2
  go_ret2
  exact ⟨rfl, hb⟩

/-- What String makes of l from an offset on. -/
def strAt (l : List UInt8) (at' : Int) : List UInt8 × Int × Int :=
  let r := intAt l at'
  if r.2.2 = 0 then
    if r.1 < 0 ∨ 65536 < r.1 ∨ (l.length : Int) - r.2.1 < r.1 then ([], 0, 10) else ((l.drop r.2.1.toNat).take r.1.toNat, r.2.1 + r.1, 0)
  else ([], 0, r.2.2)
theorem intAt_ok (l : List UInt8) (at' : Int) (h : (intAt l at').2.2 = 0) : 0 ≤ at' ∧ at' ≤ l.length ∧ okInt (intAt l at').1 = true ∧ at' ≤ (intAt l at').2.1 ∧ (intAt l at').2.1 ≤ l.length := by
  unfold intAt at h ⊢
  split at h
  · simp at h
  · rename_i h1
    rw [if_neg h1]
    split at h
    · rename_i h2
      rw [if_pos h2]
      have := dcd_le (l.drop at'.toNat)
      simp only [List.length_drop] at this
      simp only [good, Bool.and_eq_true] at h2
      refine ⟨by omega, by omega, h2.2, by simp only; omega, by simp only; omega⟩
    · simp at h
theorem intAt_err (l : List UInt8) (at' : Int) : (intAt l at').2.2 = 0 ∨ (intAt l at').2.2 = 2 ∨ (intAt l at').2.2 = 10 := by
  unfold intAt
  split
  · exact .inr (.inl rfl)
  · split
    · exact .inl rfl
    · exact .inr (.inr rfl)
set_option maxHeartbeats 1000000 in
theorem string_any (s : ByteArray) (at' : Int) (w : World) (hs : s.size ≤ maxLen) :
    Calls Tryz.prog 188 #[.string s, .int .i64 at'] w fun e w' => e = .returned (.tuple #[.string ⟨(strAt s.data.toList at').1.toArray⟩, .int .i64 (strAt s.data.toList at').2.1, .int .i64 (strAt s.data.toList at').2.2]) ∧ Below w.heap.size w w' := by
  have hi := int_any s at' w hs
  have hok := intAt_ok s.data.toList at'
  have her := intAt_err s.data.toList at'
  unfold strAt
  simp only
  generalize intAt s.data.toList at' = r at *
  obtain ⟨n, start, err⟩ := r
  simp only at hi hok her ⊢
  have hsl : (s.data.toList.length : Int) = s.size := by simp
  have HI := Lib.hid hi
  clear hi
  unfold maxLen at hs
  by_cases he : err = 0
  · subst he
    obtain ⟨h1, h2, h3, h4, h5⟩ := hok rfl
    rw [okInt_iff] at h3
    rw [if_pos rfl]
    clear hok her
    rw [hsl] at h2 h5 ⊢
    by_cases hn : n < 0
    · rw [if_pos (.inl hn)]
      go_enter Tryz.func188, Tryz.ntmps188
      go_wp2_with fail
      refine HI.out.mono ?_
      rintro e w' ⟨rfl, rfl⟩
      go_wp2
      go_ret3
      exact ⟨rfl, Below.refl _ _⟩
    · by_cases hn2 : 65536 < n
      · rw [if_pos (.inr (.inl hn2))]
        go_enter Tryz.func188, Tryz.ntmps188
        go_wp2_with fail
        refine HI.out.mono ?_
        rintro e w' ⟨rfl, rfl⟩
        go_wp2
        go_ret3
        exact ⟨rfl, Below.refl _ _⟩
      · by_cases hn3 : (s.size : Int) - start < n
        · rw [if_pos (.inr (.inr hn3))]
          go_enter Tryz.func188, Tryz.ntmps188
          go_wp2_with fail
          refine HI.out.mono ?_
          rintro e w' ⟨rfl, rfl⟩
          go_wp2
          go_ret3
          exact ⟨rfl, Below.refl _ _⟩
        · rw [if_neg (by omega)]
          obtain ⟨k, rfl⟩ := Int.eq_ofNat_of_zero_le (show 0 ≤ n by omega)
          obtain ⟨st, rfl⟩ := Int.eq_ofNat_of_zero_le (show 0 ≤ start by omega)
          clear h3 hsl
          have hj1 : (st : Int) + k ≤ s.size := by omega
          have hj2 : (st : Int) ≤ st + k := by omega
          have hexl : (s.extract st (st + k)).data.toList = (s.data.toList.drop st).take k := by rw [extract_toList]; congr 1; omega
          have hes : (s.extract st (st + k)).size ≤ 281474976710656 := by
            have : (s.extract st (st + k)).size ≤ k := by simp; omega
            omega
          have HX := Lib.hid hexl
          clear hexl
          have hsum : ((st : Int) + k).toNat = st + k := by omega
          go_enter Tryz.func188, Tryz.ntmps188
          go_wp2_with fail
          refine HI.out.mono ?_
          rintro e w' ⟨rfl, rfl⟩
          go_wp2_with fail
          refine (clone_any _ w hes).mono ?_
          rintro e w' ⟨rfl, hb⟩
          go_wp2
          go_ret3
          refine ⟨ret_sii (bytes_ext (by rw [HX.out]; simp)) rfl rfl, hb⟩
  · have heq : ((err : Int) == 0) = false := by simp [he]
    rw [if_neg he]
    go_enter Tryz.func188, Tryz.ntmps188
    go_wp2_with fail
    refine HI.out.mono ?_
    rintro e w' ⟨rfl, rfl⟩
    go_wp2
    go_ret3
    exact ⟨rfl, Below.refl _ _⟩
end Go.Proofs.YtlhcckjfgpcohaaGreatDoor
