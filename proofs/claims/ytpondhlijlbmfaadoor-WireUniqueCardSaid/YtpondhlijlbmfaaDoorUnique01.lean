/- WireUnique: the walk of the statement's text. -/
import Derived.Test.YtpondhlijlbmfaaDoorLaw01
import Derived.Test.YtpondhlijlbmfaaDoorWireP2
import Derived.RegionTactic
import Derived.ChangeAlike
namespace Go.Proofs.YtpondhlijlbmfaaDoor
open Go.RowKit Go.Shelf
theorem int_pack (l : List UInt8) (k : Nat) (hk : k ≤ l.length) : (∃ (n : Int) (m : Nat) (E : List UInt8), intAt l k = (n, (k : Int) + m, 0) ∧ okInt n = true ∧ encInt n = E ∧ k + m ≤ l.length ∧ (l.drop k).take m = E) ∨ intAt l k = (0, 0, 10) := by
  by_cases h : (intAt l k).2.2 = 0
  · obtain ⟨h1, m, h2, h3, h4⟩ := unique_int l k h
    refine .inl ⟨(intAt l k).1, m, _, ?_, h1, rfl, h3, h4⟩
    generalize intAt l k = r at *
    obtain ⟨a, b, c⟩ := r
    simp only at h h2 ⊢
    rw [h, h2]; simp
  · exact .inr (refused_int l k hk h)
theorem str_pack (l : List UInt8) (k : Nat) (hk : k ≤ l.length) : (∃ (v : List UInt8) (m : Nat) (E : List UInt8), strAt l k = (v, (k : Int) + m, 0) ∧ v.length ≤ 65536 ∧ encInt (v.length : Int) ++ v = E ∧ k + m ≤ l.length ∧ (l.drop k).take m = E) ∨ strAt l k = ([], 0, 10) := by
  by_cases h : (strAt l k).2.2 = 0
  · obtain ⟨h1, m, h2, h3, h4⟩ := unique_str l k h
    refine .inl ⟨(strAt l k).1, m, _, ?_, h1, rfl, h3, h4⟩
    generalize strAt l k = r at *
    obtain ⟨a, b, c⟩ := r
    simp only at h h2 ⊢
    rw [h, h2]; simp
  · exact .inr (refused_str l k hk h)
theorem putStr_mk (v : List UInt8) (w : World) (h : v.length ≤ 65536) :
    Calls Tryd.prog 19 #[.string ⟨v.toArray⟩] w fun e w' => e = .returned (.tuple #[.string ⟨(encInt (v.length : Int) ++ v).toArray⟩, .int .i64 0]) ∧ Below w.heap.size w w' := by
  have := putStr_yes ⟨v.toArray⟩ w (by rw [mk_size]; exact h)
  rw [mk_append, mk_size] at this
  exact this
set_option maxRecDepth 100000 in
set_option maxHeartbeats 4000000 in
theorem unique_walk (s : ByteArray) (p first : Int) (w : World) (hs : s.size ≤ maxLen) (hp : (Lit.int .i64 p).wf = true) (hf : (Lit.int .u8 first).wf = true) (ht : Tab w) :
    Calls Tryd.prog 5 #[.string s, .int .i64 p, .int .u8 first] w fun e w' => e = .returned (.bool true) ∧ Below w.heap.size w w' := by
  have hp := wf64 hp
  have hf := wfu8 hf
  unfold maxLen at hs
  have hx : (s.extract 0 (min (s.size : Int) 300).toNat).size ≤ 300 := by simp; omega
  obtain ⟨fb, rfl⟩ : ∃ fb : UInt8, first = (fb.toNat : Int) := ⟨UInt8.ofNat first.toNat, by rw [UInt8.toNat_ofNat']; omega⟩
  go_enter Tryd.func5, Tryd.ntmps5
  go_wp2_with fail
  refine (sane_any _ ht).mono ?_
  rintro e w1 ⟨rfl, b1⟩
  go_wp2_with fail
  have hcv : ∀ wx : World, wx.cell? ⟨w1.heap.size, 0, none⟩ = some (.int .u8 (fb.toNat : Int)) → (convert 38 9 (.slice (some ⟨w1.heap.size, 0, none⟩) 1 1)).run Tryd.prog wx = .ok (.string ⟨[fb].toArray⟩) wx := fun wx hwx =>
    run_convert_bytes_back wx 38 9 5 ⟨w1.heap.size, 0, none⟩ 1 [fb] Tryd.underlying38 Tryd.underlying5 Tryd.underlying9 (fun j hj => by
      have : j = 0 := by simpa using hj
      subst this
      simpa [Addr.add] using hwx)
  go_region
  have htl : (({ data := #[fb] } : ByteArray) ++ s.extract 0 (min (s.size : Int) 300).toNat).size ≤ 301 := by
    have : (({ data := #[fb] } : ByteArray)).size = 1 := rfl
    rw [ByteArray.size_append]; omega
  generalize ({ data := #[fb] } : ByteArray) ++ s.extract 0 (min (s.size : Int) 300).toNat = t at *
  obtain ⟨W0, hW0⟩ : ∃ W0, (w1.alloc (Obj.cells #[Value.int IntKind.u8 (fb.toNat : Int)] 5)).drew = W0 := ⟨_, rfl⟩
  have b2 : Below w.heap.size w W0 := by
    rw [← hW0]
    exact (b1.alloc b1.size _).drew
  rw [hW0]
  clear hW0 hcv b1
  go_wp2_with fail
  refine (pick_any p ((t.size : Int) + 1) _ (by omega) hp.1 hp.2).mono ?_
  rintro e w2 ⟨rfl, rfl⟩
  have q1 := pck_lo p ((t.size : Int) + 1) (by omega)
  have q2 := pck_hi p ((t.size : Int) + 1) (by omega)
  generalize pck p ((t.size : Int) + 1) = u at *
  obtain ⟨u, rfl⟩ := Int.eq_ofNat_of_zero_le q1
  go_wp2_with fail
  go_loopw [38] (fun i wr => ∃ k : Nat, k ≤ 2 ∧ i = .int .i64 k ∧ wr.cell? ⟨W0.heap.size, 0, none⟩ = some (.int .i64 0) ∧ wr.cell? ⟨W0.heap.size, 1, none⟩ = some (.int .i64 (u : Int)) ∧ Below w.heap.size w wr) (fun i _ => 2 - (intOf i).toNat)
  case atStart =>
    exact ⟨0, by omega, rfl, by simp, by simp, b2.alloc b2.size _⟩
  case round =>
    obtain ⟨k, hk, rfl, d0, d1, bw⟩ := hrel
    by_cases hlt : k < 2
    · obtain ⟨kk, hkk, hck⟩ : ∃ kk : Nat, kk ≤ t.size ∧ wr.cell? ⟨W0.heap.size, k, none⟩ = some (.int .i64 (kk : Int)) := by
        have : k = 0 ∨ k = 1 := by omega
        rcases this with rfl | rfl
        · exact ⟨0, by omega, d0⟩
        · exact ⟨u, by omega, d1⟩
      have hI := fun wx => int_any t (kk : Int) wx (by unfold maxLen; omega)
      have hS := fun wx => string_any t (kk : Int) wx (by unfold maxLen; omega)
      have hi := int_pack t.data.toList kk (by rw [bytes_len]; exact hkk)
      have hs2 := str_pack t.data.toList kk (by rw [bytes_len]; exact hkk)
      rcases hi with hi | hi
      · rcases hs2 with hs2 | hs2
        · obtain ⟨n, m, E, hi, ok, hE, hm, hx⟩ := hi
          obtain ⟨v, r, Y, hs2, hv, hY, hr, hy⟩ := hs2
          simp only [hi] at hI
          simp only [hs2] at hS
          have hP := fun wx => putInt_yes n wx ok
          rw [hE] at hP
          have heq : ((t.extract kk (kk + m)).toList == E) = true := by rw [ByteArray.toList_eq, extract_toList, Nat.add_sub_cancel_left, hx]; simp
          have hsum : ((kk : Int) + m).toNat = kk + m := by omega
          have hle : (kk : Int) + m ≤ t.size := by rw [← bytes_len]; omega
          have hQ := fun wx => putStr_mk v wx hv
          rw [hY] at hQ
          have heq2 : ((t.extract kk (kk + r)).toList == Y) = true := by rw [ByteArray.toList_eq, extract_toList, Nat.add_sub_cancel_left, hy]; simp
          have hsum2 : ((kk : Int) + r).toNat = kk + r := by omega
          have hle2 : (kk : Int) + r ≤ t.size := by rw [← bytes_len]; omega
          have HI := Lib.hid hI
          have HS := Lib.hid hS
          have HP := Lib.hid hP
          have HQ := Lib.hid hQ
          clear hI hS hP hQ hi hs2 hE hx hm hY hy hr
          go_wp2_with fail
          refine (HI.out _).mono ?_
          rintro e w3 ⟨rfl, rfl⟩
          go_wp2_with fail
          refine (HP.out _).mono ?_
          rintro e w3 ⟨rfl, c1⟩
          go_wp2_with fail
          refine (HS.out _).mono ?_
          rintro e w4 ⟨rfl, c2⟩
          go_wp2_with fail
          refine (HQ.out _).mono ?_
          rintro e w5 ⟨rfl, c3⟩
          go_wp2
          exact ⟨⟨k + 1, by omega, by go_num, cellOver c3 (cellOver c2 (cellOver c1 d0)), cellOver c3 (cellOver c2 (cellOver c1 d1)), belowOver (belowOver (belowOver bw (Nat.le_refl _) c1) (Nat.le_refl _) c2) (Nat.le_refl _) c3⟩, by simp [intOf]; omega⟩
        · obtain ⟨n, m, E, hi, ok, hE, hm, hx⟩ := hi
          simp only [hi] at hI
          simp only [hs2] at hS
          have hP := fun wx => putInt_yes n wx ok
          rw [hE] at hP
          have heq : ((t.extract kk (kk + m)).toList == E) = true := by rw [ByteArray.toList_eq, extract_toList, Nat.add_sub_cancel_left, hx]; simp
          have hsum : ((kk : Int) + m).toNat = kk + m := by omega
          have hle : (kk : Int) + m ≤ t.size := by rw [← bytes_len]; omega
          have hQ := fun wx => putStr_mk [] wx (by decide)
          have HI := Lib.hid hI
          have HS := Lib.hid hS
          have HP := Lib.hid hP
          have HQ := Lib.hid hQ
          clear hI hS hP hQ hi hs2 hE hx hm
          go_wp2_with fail
          refine (HI.out _).mono ?_
          rintro e w3 ⟨rfl, rfl⟩
          go_wp2_with fail
          refine (HP.out _).mono ?_
          rintro e w3 ⟨rfl, c1⟩
          go_wp2_with fail
          refine (HS.out _).mono ?_
          rintro e w4 ⟨rfl, c2⟩
          go_wp2_with fail
          refine (HQ.out _).mono ?_
          rintro e w5 ⟨rfl, c3⟩
          go_wp2
          exact ⟨⟨k + 1, by omega, by go_num, cellOver c3 (cellOver c2 (cellOver c1 d0)), cellOver c3 (cellOver c2 (cellOver c1 d1)), belowOver (belowOver (belowOver bw (Nat.le_refl _) c1) (Nat.le_refl _) c2) (Nat.le_refl _) c3⟩, by simp [intOf]; omega⟩
      · rcases hs2 with hs2 | hs2
        · obtain ⟨v, r, Y, hs2, hv, hY, hr, hy⟩ := hs2
          simp only [hi] at hI
          simp only [hs2] at hS
          have hP := fun wx => putInt_yes 0 wx (by decide)
          have hQ := fun wx => putStr_mk v wx hv
          rw [hY] at hQ
          have heq2 : ((t.extract kk (kk + r)).toList == Y) = true := by rw [ByteArray.toList_eq, extract_toList, Nat.add_sub_cancel_left, hy]; simp
          have hsum2 : ((kk : Int) + r).toNat = kk + r := by omega
          have hle2 : (kk : Int) + r ≤ t.size := by rw [← bytes_len]; omega
          have HI := Lib.hid hI
          have HS := Lib.hid hS
          have HP := Lib.hid hP
          have HQ := Lib.hid hQ
          clear hI hS hP hQ hi hs2 hY hy hr
          go_wp2_with fail
          refine (HI.out _).mono ?_
          rintro e w3 ⟨rfl, rfl⟩
          go_wp2_with fail
          refine (HP.out _).mono ?_
          rintro e w3 ⟨rfl, c1⟩
          go_wp2_with fail
          refine (HS.out _).mono ?_
          rintro e w4 ⟨rfl, c2⟩
          go_wp2_with fail
          refine (HQ.out _).mono ?_
          rintro e w5 ⟨rfl, c3⟩
          go_wp2
          exact ⟨⟨k + 1, by omega, by go_num, cellOver c3 (cellOver c2 (cellOver c1 d0)), cellOver c3 (cellOver c2 (cellOver c1 d1)), belowOver (belowOver (belowOver bw (Nat.le_refl _) c1) (Nat.le_refl _) c2) (Nat.le_refl _) c3⟩, by simp [intOf]; omega⟩
        · simp only [hi] at hI
          simp only [hs2] at hS
          have hP := fun wx => putInt_yes 0 wx (by decide)
          have hQ := fun wx => putStr_mk [] wx (by decide)
          have HI := Lib.hid hI
          have HS := Lib.hid hS
          have HP := Lib.hid hP
          have HQ := Lib.hid hQ
          clear hI hS hP hQ hi hs2
          go_wp2_with fail
          refine (HI.out _).mono ?_
          rintro e w3 ⟨rfl, rfl⟩
          go_wp2_with fail
          refine (HP.out _).mono ?_
          rintro e w3 ⟨rfl, c1⟩
          go_wp2_with fail
          refine (HS.out _).mono ?_
          rintro e w4 ⟨rfl, c2⟩
          go_wp2_with fail
          refine (HQ.out _).mono ?_
          rintro e w5 ⟨rfl, c3⟩
          go_wp2
          exact ⟨⟨k + 1, by omega, by go_num, cellOver c3 (cellOver c2 (cellOver c1 d0)), cellOver c3 (cellOver c2 (cellOver c1 d1)), belowOver (belowOver (belowOver bw (Nat.le_refl _) c1) (Nat.le_refl _) c2) (Nat.le_refl _) c3⟩, by simp [intOf]; omega⟩
    · obtain rfl : k = 2 := by omega
      go_wp2
      go_ret
      exact ⟨rfl, bw⟩
end Go.Proofs.YtpondhlijlbmfaaDoor
