/- WireRoundTrip: the walk of the statement's text. -/
import Derived.Test.YtpondhlijlbmfaaDoorLaw01
import Derived.Test.YtpondhlijlbmfaaDoorWireP2
namespace Go.Proofs.YtpondhlijlbmfaaDoor
open Go.RowKit Go.Shelf
set_option maxRecDepth 100000 in
set_option maxHeartbeats 4000000 in
theorem roundTrip_walk (c : Int) (t a0 a1 : ByteArray) (w : World) (hc : (Lit.int .i64 c).wf = true) (hs : t.size ≤ maxLen) (hs0 : a0.size ≤ maxLen) (hs1 : a1.size ≤ maxLen) (ht : Tab w) :
    Calls Tryd.prog 4 #[.int .i64 c, .string t, .agg #[.string a0, .string a1]] w fun e w' => e = .returned (.bool true) ∧ Below w.heap.size w w' := by
  obtain ⟨h1, h2⟩ := wf64 hc
  clear hc
  unfold maxLen at hs hs0 hs1
  go_enter Tryd.func4, Tryd.ntmps4
  go_wp2_with fail
  refine (sane_any _ ?_).mono ?_
  · exact ht.below ((Below.refl _ _).alloc (Nat.le_refl _) _)
  rintro e w1 ⟨rfl, b1⟩
  go_wp2_with fail
  refine (numberFrom_any c _ h1 h2).mono ?_
  rintro e w2 ⟨rfl, b2⟩
  have d0 : w2.cell? ⟨w.heap.size, 0, none⟩ = some (.string a0) := cellOver b2 (cellOver b1 (by simp))
  have d1 : w2.cell? ⟨w.heap.size, 1, none⟩ = some (.string a1) := cellOver b2 (cellOver b1 (by simp))
  have b3 : Below w.heap.size w w2 := belowOver (belowOver ((Below.refl _ w).alloc (Nat.le_refl _) _) (Nat.le_refl _) b1) (Nat.le_refl _) b2
  clear b1 b2
  go_wp2_with fail
  have hp : (a0.extract 0 (min (a0.size : Int) 200).toNat).size ≤ 200 := by simp; omega
  have hq : (a1.extract 0 (min (a1.size : Int) 200).toNat).size ≤ 200 := by simp; omega
  have hx : (t.extract 0 (min (t.size : Int) 200).toNat).size ≤ 200 := by simp; omega
  clear d0 d1 hs hs0 hs1
  have hok := numFrom_ok c
  generalize a0.extract 0 (min (a0.size : Int) 200).toNat = p at *
  generalize a1.extract 0 (min (a1.size : Int) 200).toNat = q at *
  generalize t.extract 0 (min (t.size : Int) 200).toNat = x at *
  generalize numFrom c = n at *
  have hir := int_round n hok p.data.toList q.data.toList
  have hsr := str_round x.data.toList p.data.toList q.data.toList (by rw [bytes_len]; omega)
  simp only [bytes_len, List.length_append] at hir hsr
  have hel : (encInt n).length ≤ 9 := enc_len _ _
  have hex : (encInt (x.size : Int)).length ≤ 9 := enc_len _ _
  have k1 := fun w => putInt_yes n w hok
  have k2 := fun w => putStr_yes x w (by omega)
  have k3 : ∀ w, Calls Tryd.prog 15 #[.string (p ++ (⟨(encInt n).toArray⟩ : ByteArray) ++ q), .int .i64 p.size] w fun e w' => e = .returned (.tuple #[.int .i64 n, .int .i64 ((p.size : Int) + (encInt n).length), .int .i64 0]) ∧ w = w' := fun w => by
    have := int_any (p ++ (⟨(encInt n).toArray⟩ : ByteArray) ++ q) (p.size : Int) w (by unfold maxLen; simp only [ByteArray.size_append, mk_size]; omega)
    rw [joined_toList, hir] at this
    exact this
  have k4 : ∀ w, Calls Tryd.prog 17 #[.string (p ++ ((⟨(encInt (x.size : Int)).toArray⟩ : ByteArray) ++ x) ++ q), .int .i64 p.size] w fun e w' => e = .returned (.tuple #[.string x, .int .i64 ((p.size : Int) + ((encInt (x.size : Int)).length + x.size)), .int .i64 0]) ∧ Below w.heap.size w w' := fun w => by
    have := string_any (p ++ ((⟨(encInt (x.size : Int)).toArray⟩ : ByteArray) ++ x) ++ q) (p.size : Int) w (by unfold maxLen; simp only [ByteArray.size_append, mk_size]; omega)
    have e : (p ++ ((⟨(encInt (x.size : Int)).toArray⟩ : ByteArray) ++ x) ++ q).data.toList = p.data.toList ++ (encInt (x.size : Int) ++ x.data.toList ++ q.data.toList) := by simp
    rw [e, hsr] at this
    exact this
  clear hir hsr
  have K1 := Lib.hid k1
  have K2 := Lib.hid k2
  have K3 := Lib.hid k3
  have K4 := Lib.hid k4
  clear k1 k2 k3 k4
  refine (K1.out _).mono ?_
  rintro e w3 ⟨rfl, b4⟩
  go_wp2_with fail
  refine (K2.out _).mono ?_
  rintro e w4 ⟨rfl, b5⟩
  go_wp2_with fail
  refine (K3.out _).mono ?_
  rintro e w5 ⟨rfl, rfl⟩
  go_wp2_with fail
  refine (K4.out _).mono ?_
  rintro e w5 ⟨rfl, b6⟩
  go_wp2
  go_ret
  exact ⟨rfl, belowOver (belowOver (belowOver b3 (Nat.le_refl _) b4) (Nat.le_refl _) b5) (Nat.le_refl _) b6⟩
end Go.Proofs.YtpondhlijlbmfaaDoor
