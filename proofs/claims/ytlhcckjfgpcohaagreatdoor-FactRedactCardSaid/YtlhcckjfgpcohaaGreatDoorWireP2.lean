/- Package wire: what follows from the definitions: proper prefixes are refused, what is accepted is exactly an encoding. -/
import Derived.Test.YtlhcckjfgpcohaaGreatDoorWireI
namespace Go.Proofs.YtlhcckjfgpcohaaGreatDoor
set_option maxRecDepth 100000
theorem int_round (n : Int) (h : okInt n = true) (p q : List UInt8) : intAt (p ++ (encInt n ++ q)) (p.length : Int) = (n, (p.length : Int) + (encInt n).length, 0) := by
  have hg := good_enc n h q
  have hd := dcd_enc n h q
  unfold intAt
  rw [if_neg (by simp; omega)]
  have e : (p ++ (encInt n ++ q)).drop ((p.length : Int)).toNat = encInt n ++ q := by simp
  rw [e, if_pos hg, hd]
  simp only [Int.toNat_of_nonneg (zz_nonneg n), unzz_zz]
theorem str_round (t p q : List UInt8) (h : t.length ≤ 65536) : strAt (p ++ ((encInt t.length ++ t) ++ q)) (p.length : Int) = (t, (p.length : Int) + (encInt t.length ++ t).length, 0) := by
  have hi := int_round (t.length : Int) (by rw [okInt_iff]; omega) p (t ++ q)
  rw [← List.append_assoc (encInt _)] at hi
  unfold strAt
  simp only [List.append_assoc] at hi ⊢
  rw [hi]
  simp only [if_true, List.length_append]
  rw [if_neg (by omega)]
  have e : ((p.length : Int) + ((encInt (t.length : Int)).length : Int)).toNat = (p ++ encInt (t.length : Int)).length := by simp; omega
  rw [e, ← List.append_assoc, List.drop_left]
  simp
  omega
theorem dcd_append (l r : List UInt8) (h : (dcd l).2 ≠ 0) : dcd (l ++ r) = dcd l := by
  obtain ⟨v, hv, _, he, hp⟩ := jn_some 8 0 0 l h
  obtain ⟨s, rfl⟩ := hp
  rw [List.append_assoc]
  have h1 := jn_enc 8 0 0 v (s ++ r) hv (.inl rfl)
  have h2 := jn_enc 8 0 0 v s hv (.inl rfl)
  unfold dcd
  rw [h1, h2]
theorem trunc_dcd (n : Int) (h : okInt n = true) (k : Nat) (hk : k < (encInt n).length) : (dcd ((encInt n).take k)).2 = 0 := by
  by_cases h0 : (dcd ((encInt n).take k)).2 = 0
  · exact h0
  · have h1 := dcd_append _ ((encInt n).drop k) h0
    rw [List.take_append_drop] at h1
    have h2 := dcd_enc n h []
    rw [List.append_nil, h1] at h2
    have h3 := dcd_le ((encInt n).take k)
    rw [h2] at h3
    simp only [List.length_take] at h3
    omega
theorem trunc_int (n : Int) (h : okInt n = true) (k : Nat) (hk : k < (encInt n).length) : intAt ((encInt n).take k) 0 = (0, 0, 10) := by
  unfold intAt
  rw [if_neg (by omega)]
  have e : good (((encInt n).take k).drop (0 : Int).toNat) = false := by
    simp [good, trunc_dcd n h k hk]
  rw [e]
  rfl
theorem trunc_str (t : List UInt8) (ht : t.length ≤ 65536) (k : Nat) (hk : k < (encInt (t.length : Int) ++ t).length) : strAt ((encInt (t.length : Int) ++ t).take k) 0 = ([], 0, 10) := by
  have hok : okInt (t.length : Int) = true := by rw [okInt_iff]; omega
  unfold strAt
  by_cases hs : k < (encInt (t.length : Int)).length
  · have e : (encInt (t.length : Int) ++ t).take k = (encInt (t.length : Int)).take k := List.take_append_of_le_length (by omega)
    rw [e, trunc_int _ hok k hs]
    rfl
  · obtain ⟨m, rfl⟩ : ∃ m, k = (encInt (t.length : Int)).length + m := ⟨k - (encInt (t.length : Int)).length, by omega⟩
    have e : (encInt (t.length : Int) ++ t).take ((encInt (t.length : Int)).length + m) = encInt (t.length : Int) ++ t.take m := by
      rw [List.take_append, List.take_of_length_le (by omega), Nat.add_sub_cancel_left]
    rw [e]
    have hr := int_round (t.length : Int) hok [] (t.take m)
    simp only [List.nil_append, List.length_nil] at hr
    have hr' : intAt (encInt (t.length : Int) ++ t.take m) 0 = ((t.length : Int), ((encInt (t.length : Int)).length : Int), 0) := by
      simpa using hr
    rw [hr']
    simp only [List.length_append] at hk
    simp only [List.length_append, List.length_take, if_true]
    rw [if_pos (by omega)]
theorem enc_prefix {m n : Int} (hm : okInt m = true) (hn : okInt n = true) (h : encInt m <+: encInt n) : m = n := by
  obtain ⟨r, hr⟩ := h
  have h1 := dcd_enc m hm r
  rw [hr] at h1
  have h2 := dcd_enc n hn []
  rw [List.append_nil, h1] at h2
  have h3 := congrArg Prod.fst h2
  simp only at h3
  have a := zz_nonneg m
  have b := zz_nonneg n
  exact zz_inj (by omega)
theorem enc_inj {m n : Int} (hm : okInt m = true) (hn : okInt n = true) (h : encInt m = encInt n) : m = n := enc_prefix hm hn (by rw [h]; exact List.prefix_refl _)

theorem unique_int (l : List UInt8) (k : Nat) (h0 : (intAt l k).2.2 = 0) : okInt (intAt l k).1 = true ∧ ∃ m : Nat, (intAt l k).2.1 = ((k + m : Nat) : Int) ∧ k + m ≤ l.length ∧ (l.drop k).take m = encInt (intAt l k).1 := by
  unfold intAt at h0 ⊢
  by_cases h1 : (k : Int) < 0 ∨ (l.length : Int) < k
  · rw [if_pos h1] at h0; simp at h0
  · rw [if_neg h1] at h0 ⊢
    by_cases h2 : good (l.drop (k : Int).toNat) = true
    · rw [if_pos h2]
      obtain ⟨h3, h4, h5⟩ := good_some _ h2
      simp only [Int.toNat_natCast] at h3 h4 h5 ⊢
      have h6 := dcd_le (l.drop k)
      simp only [List.length_drop] at h6
      refine ⟨h3, (dcd (l.drop k)).2, by omega, by omega, ?_⟩
      rw [h4]
      exact (List.prefix_iff_eq_take.1 h5).symm
    · rw [if_neg h2] at h0; simp at h0
theorem refused_int (l : List UInt8) (k : Nat) (hk : k ≤ l.length) (h0 : (intAt l k).2.2 ≠ 0) : intAt l k = (0, 0, 10) := by
  unfold intAt at h0 ⊢
  rw [if_neg (by omega)] at h0 ⊢
  by_cases h2 : good (l.drop (k : Int).toNat) = true
  · rw [if_pos h2] at h0; simp at h0
  · rw [if_neg h2]
theorem unique_str (l : List UInt8) (k : Nat) (h0 : (strAt l k).2.2 = 0) : (strAt l k).1.length ≤ 65536 ∧ ∃ m : Nat, (strAt l k).2.1 = ((k + m : Nat) : Int) ∧ k + m ≤ l.length ∧ (l.drop k).take m = encInt ((strAt l k).1.length : Int) ++ (strAt l k).1 := by
  unfold strAt at h0 ⊢
  simp only at h0 ⊢
  by_cases h1 : (intAt l k).2.2 = 0
  · obtain ⟨h2, m, h3, h4, h5⟩ := unique_int l k h1
    rw [if_pos h1] at h0 ⊢
    generalize (intAt l k).1 = n at *
    rw [h3] at h0 ⊢
    by_cases h6 : n < 0 ∨ 65536 < n ∨ (l.length : Int) - ((k + m : Nat) : Int) < n
    · rw [if_pos h6] at h0; simp at h0
    · rw [if_neg h6]
      obtain ⟨c, rfl⟩ := Int.eq_ofNat_of_zero_le (show 0 ≤ n by omega)
      simp only [Int.toNat_natCast]
      have hc : ((l.drop (k + m)).take c).length = c := by simp; omega
      rw [hc]
      refine ⟨by omega, m + c, by omega, by omega, ?_⟩
      rw [List.take_add, h5, List.drop_drop]
  · rw [if_neg h1] at h0
    exact absurd h0 h1
theorem refused_str (l : List UInt8) (k : Nat) (hk : k ≤ l.length) (h0 : (strAt l k).2.2 ≠ 0) : strAt l k = ([], 0, 10) := by
  unfold strAt at h0 ⊢
  simp only at h0 ⊢
  by_cases h1 : (intAt l k).2.2 = 0
  · rw [if_pos h1] at h0 ⊢
    by_cases h6 : (intAt l k).1 < 0 ∨ 65536 < (intAt l k).1 ∨ (l.length : Int) - (intAt l k).2.1 < (intAt l k).1
    · rw [if_pos h6]
    · rw [if_neg h6] at h0; simp at h0
  · rw [if_neg h1, refused_int l k hk h1]
end Go.Proofs.YtlhcckjfgpcohaaGreatDoor
