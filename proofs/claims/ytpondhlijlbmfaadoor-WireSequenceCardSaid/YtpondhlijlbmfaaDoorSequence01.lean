import Derived.Test.YtpondhlijlbmfaaDoorBytes01
import Derived.Test.YtpondhlijlbmfaaDoorWireP2
import Derived.Test.YtpondhlijlbmfaaDoorIns
import Derived.Deep.RegionWith
import Derived.Deep.RegionHeld3
namespace Go.Proofs.YtpondhlijlbmfaaDoor
open Go.RowKit Go.Shelf
def encAll (P : List (Int × List UInt8)) : List UInt8 := P.flatMap fun p => encInt p.1 ++ (encInt (p.2.length : Int) ++ p.2)
theorem encAll_snoc (P : List (Int × List UInt8)) (k : Nat) (h : k < P.length) : encAll (P.take (k + 1)) = encAll (P.take k) ++ (encInt P[k].1 ++ (encInt (P[k].2.length : Int) ++ P[k].2)) := by
  unfold encAll
  rw [List.take_succ_eq_append_getElem h, List.flatMap_append]
  simp
theorem encAll_split (P : List (Int × List UInt8)) (k : Nat) : encAll P = encAll (P.take k) ++ encAll (P.drop k) := by
  unfold encAll
  rw [← List.flatMap_append, List.take_append_drop]
theorem encAll_int (P : List (Int × List UInt8)) (k : Nat) (h : k < P.length) (hok : okInt P[k].1 = true) : intAt (encAll P) ((encAll (P.take k)).length : Int) = (P[k].1, ((encAll (P.take k)).length : Int) + (encInt P[k].1).length, 0) := by
  have h1 := encAll_split P (k + 1)
  rw [encAll_snoc P k h, List.append_assoc, List.append_assoc] at h1
  rw [h1]
  exact int_round _ hok _ _
theorem encAll_str (P : List (Int × List UInt8)) (k : Nat) (h : k < P.length) (hl : P[k].2.length ≤ 65536) : strAt (encAll P) (((encAll (P.take k)).length : Int) + (encInt P[k].1).length) = (P[k].2, ((encAll (P.take (k + 1))).length : Int), 0) := by
  have h1 := encAll_split P (k + 1)
  rw [encAll_snoc P k h] at h1
  have h2 := str_round P[k].2 (encAll (P.take k) ++ encInt P[k].1) (encAll (P.drop (k + 1))) hl
  have e : encAll P = encAll (P.take k) ++ encInt P[k].1 ++ ((encInt (P[k].2.length : Int) ++ P[k].2) ++ encAll (P.drop (k + 1))) := by rw [h1]; simp
  have e2 : (((encAll (P.take k) ++ encInt P[k].1).length : Nat) : Int) = ((encAll (P.take k)).length : Int) + (encInt P[k].1).length := by simp
  rw [e, ← e2, h2, encAll_snoc P k h]
  simp
  omega
theorem encAll_end (l : List UInt8) : intAt l (l.length : Int) = (0, 0, 10) := by
  unfold intAt
  rw [if_neg (by omega)]
  have : good (l.drop ((l.length : Int)).toNat) = false := by simp [good, dcd, jn]
  rw [this]; rfl
/-- The pairs that the law writes, one behind the other. -/
def pairs (zs : List Int) (ss : List ByteArray) (n : Nat) : List (Int × List UInt8) := (List.range n).map fun j => (numFrom (zs.getD j 0), (ss.getD j ByteArray.empty).data.toList.take 100)
theorem pairs_len (zs : List Int) (ss : List ByteArray) (n : Nat) : (pairs zs ss n).length = n := by simp [pairs]
theorem pairs_at (zs : List Int) (ss : List ByteArray) (n k : Nat) (h : k < (pairs zs ss n).length) : (pairs zs ss n)[k] = (numFrom (zs.getD k 0), (ss.getD k ByteArray.empty).data.toList.take 100) := by simp [pairs]
theorem cut100 (x : ByteArray) : (x.extract 0 (min (x.size : Int) 100).toNat).data.toList = x.data.toList.take 100 := by
  rw [extract_toList]
  have hl := bytes_len x
  by_cases h : x.size ≤ 100
  · have e : (min (x.size : Int) 100).toNat = x.size := by omega
    rw [e, List.take_of_length_le (by simp), List.take_of_length_le (by rw [hl]; omega)]
    simp
  · have e : (min (x.size : Int) 100).toNat = 100 := by omega
    rw [e]
    simp
theorem encAll_le (P : List (Int × List UInt8)) (h : ∀ p ∈ P, p.2.length ≤ 100) : (encAll P).length ≤ 118 * P.length := by
  induction P with
  | nil => simp [encAll]
  | cons p P ih =>
    have h1 := ih (fun q hq => h q (List.mem_cons_of_mem _ hq))
    have h2 := h p List.mem_cons_self
    have h3 : (encInt p.1).length ≤ 9 := enc_len _ _
    have h4 : (encInt (p.2.length : Int)).length ≤ 9 := enc_len _ _
    have e : encAll (p :: P) = encInt p.1 ++ (encInt (p.2.length : Int) ++ p.2) ++ encAll P := by simp [encAll]
    rw [e]
    simp only [List.length_append, List.length_cons]
    omega
theorem seq_dec (P : List (Int × List UInt8)) (S : ByteArray) (hS : S.data.toList = encAll P) (hl : S.size ≤ maxLen) (k : Nat) (hk : k < P.length) (z : Int) (x : ByteArray) (e : P[k] = (numFrom z, x.data.toList.take 100)) :
    ∃ M : Int, (∀ wx, Calls Tryd.prog 15 #[.string S, .int .i64 ((encAll (P.take k)).length : Int)] wx fun e w' => e = .returned (.tuple #[.int .i64 (numFrom z), .int .i64 M, .int .i64 0]) ∧ wx = w') ∧
      ∀ wx, Calls Tryd.prog 17 #[.string S, .int .i64 M] wx fun e w' => e = .returned (.tuple #[.string (x.extract 0 (min (x.size : Int) 100).toNat), .int .i64 ((encAll (P.take (k + 1))).length : Int), .int .i64 0]) ∧ Below wx.heap.size wx w' := by
  have h1 := encAll_int P k hk (by rw [e]; exact numFrom_ok z)
  have h2 := encAll_str P k hk (by rw [e]; simp [List.length_take]; omega)
  rw [e] at h1 h2
  simp only at h1 h2
  refine ⟨((encAll (P.take k)).length : Int) + (encInt (numFrom z)).length, fun wx => ?_, fun wx => ?_⟩
  · have h3 := int_any S ((encAll (P.take k)).length : Int) wx hl
    rw [hS, h1] at h3
    exact h3
  · have h3 := string_any S (((encAll (P.take k)).length : Int) + (encInt (numFrom z)).length) wx hl
    rw [hS, h2] at h3
    have h4 : (⟨(x.data.toList.take 100).toArray⟩ : ByteArray) = x.extract 0 (min (x.size : Int) 100).toNat := bytes_ext (by rw [cut100])
    simp only [h4] at h3
    exact h3
theorem seq_end (P : List (Int × List UInt8)) (S : ByteArray) (hS : S.data.toList = encAll P) (hl : S.size ≤ maxLen) (wx : World) :
    Calls Tryd.prog 15 #[.string S, .int .i64 ((encAll P).length : Int)] wx fun e w' => e = .returned (.tuple #[.int .i64 0, .int .i64 0, .int .i64 10]) ∧ wx = w' := by
  have h3 := int_any S ((encAll P).length : Int) wx hl
  rw [hS, encAll_end] at h3
  exact h3
set_option maxRecDepth 100000 in
set_option maxHeartbeats 8000000 in
theorem sequence_walk (a : Option Addr) (na ca : Nat) (zs : List Int) (b : Option Addr) (nb cb : Nat) (ss : List ByteArray) (w : World) (ha : IsInts .i64 w a na ca zs) (hb : IsStrs w b nb cb ss) (ht : Tab w) :
    Calls Tryd.prog 6 #[.slice a na ca, .slice b nb cb] w fun e w' => e = .returned (.bool true) ∧ Below w.heap.size w w' := by
  obtain ⟨hzl, hca, hcm, hzw, hza⟩ := ha
  obtain ⟨hsl, hcb, hcm2, hsw, hsa⟩ := hb
  unfold maxLen at hcm hcm2
  have hmin : ∀ (wx : World) (ts : Array TypeId) (t : TypeId), (Builtin.min_ ts t #[.int .i64 (na : Int), .int .i64 (nb : Int), .int .i64 20]).run Tryd.prog wx = .ok (.int .i64 ((min (min na nb) 20 : Nat) : Int)) wx := by
    intro wx ts t
    simp [Builtin.min_, Builtin.min2]
    omega
  obtain ⟨n, hn⟩ : ∃ n, min (min na nb) 20 = n := ⟨_, rfl⟩
  rw [hn] at hmin
  have hna : n ≤ na := by omega
  have hnb : n ≤ nb := by omega
  have hn2 : n ≤ 20 := by omega
  clear hn
  obtain ⟨P, hP⟩ : ∃ P, pairs zs ss n = P := ⟨_, rfl⟩
  have hPl : P.length = n := by rw [← hP, pairs_len]
  have hPa : ∀ k, (h : k < P.length) → P[k] = (numFrom (zs.getD k 0), (ss.getD k ByteArray.empty).data.toList.take 100) := by
    subst hP
    exact fun k h => pairs_at zs ss n k h
  have hPb : ∀ p ∈ P, p.2.length ≤ 100 := by
    intro p hp
    obtain ⟨k, hk, rfl⟩ := List.getElem_of_mem hp
    rw [hPa k hk]
    simp [List.length_take]
    omega
  clear hP
  have HPL := Lib.hid hPl
  have HPA := Lib.hid hPa
  have HPB := Lib.hid hPb
  have HZG : Hid (∀ k, k < n → -9223372036854775808 ≤ zs.getD k 0 ∧ zs.getD k 0 ≤ 9223372036854775807) := Lib.hid (fun k hk => by
    have h1 : k < zs.length := by omega
    have h2 : zs.getD k 0 ∈ zs := by simp [List.getD, h1]
    exact wf64 (hzw _ h2))
  have HSG : Hid (∀ k, k < n → (ss.getD k ByteArray.empty).size ≤ maxLen) := Lib.hid (fun k hk => by
    have h1 : k < ss.length := by omega
    have h2 : ss.getD k ByteArray.empty ∈ ss := by simp [List.getD, h1]
    exact hsw _ h2)
  clear hPl hPa hPb
  have HZL := Lib.hid hzl
  have HSL := Lib.hid hsl
  have HZW := Lib.hid hzw
  have HSW := Lib.hid hsw
  have HZA := Lib.hid hza
  have HSA := Lib.hid hsa
  clear hzl hsl hzw hsw hza hsa
  go_enter Tryd.func6, Tryd.ntmps6
  go_wp2_with fail
  refine (sane_any _ ht).mono ?_
  rintro e w1 ⟨rfl, b1⟩
  go_wp2_with fail
  go_loopw [7, 8] (fun s i wr => ∃ k : Nat, k ≤ n ∧ i = .int .i64 k ∧ s = .string ⟨(encAll (P.take k)).toArray⟩ ∧ Below w.heap.size w wr) (fun _ i _ => n - (intOf i).toNat)
  case atStart => exact ⟨0, Nat.zero_le _, rfl, rfl, b1⟩
  case round =>
    obtain ⟨k, hk, rfl, rfl, bw⟩ := hrel
    obtain ⟨wo, rfl⟩ : ∃ wo, wo = wr := ⟨_, rfl⟩
    by_cases hlt : k < n
    · have hn0 : n ≠ 0 := by omega
      obtain ⟨bz, oz, rfl, cz⟩ := HZA.out.resolve_left (by omega)
      obtain ⟨bs, os, rfl, cs⟩ := HSA.out.resolve_left (by omega)
      have dz := cellOver bw (cz k (by omega))
      have ds := cellOver bw (cs k (by omega))
      have CZ := Lib.hid cz
      have CS := Lib.hid cs
      clear cz cs
      have hz := HZG.out k hlt
      have hs := HSG.out k hlt
      unfold maxLen at hs
      have hkP : k < P.length := by rw [HPL.out]; exact hlt
      have HSN := encAll_snoc P k hkP
      rw [HPA.out k hkP] at HSN
      generalize hZ : zs.getD k 0 = z at *
      generalize hS : ss.getD k ByteArray.empty = x at *
      have n1 := fun wx => numberFrom_any z wx hz.1 hz.2
      have k1 := fun wx => putInt_yes _ wx (numFrom_ok z)
      have N1 := Lib.hid n1
      have K1 := Lib.hid k1
      have HSNN := Lib.hid HSN
      have hltna : (k : Int) < na := by omega
      have hltnb : (k : Int) < nb := by omega
      have le1 : (encInt (numFrom z)).length ≤ 9 := enc_len _ _
      clear n1 k1 HSN hZ hS hz
      go_wp2_with fail
      refine (N1.out _).mono ?_
      rintro e w2 ⟨rfl, b2⟩
      go_wp2_with fail
      refine (K1.out _).mono ?_
      rintro e w3 ⟨rfl, b3⟩
      have ds3 := cellOver b3 (cellOver b2 ds)
      have hxl : (x.extract 0 (min (x.size : Int) 100).toNat).size ≤ 100 := by simp; omega
      have K2 := fun wx => putStr_yes _ wx (show (x.extract 0 (min (x.size : Int) 100).toNat).size ≤ 65536 by omega)
      have HSTR : (⟨(encAll (P.take k)).toArray⟩ : ByteArray) ++ ⟨(encInt (numFrom z)).toArray⟩ ++ ((⟨(encInt ((x.extract 0 (min (x.size : Int) 100).toNat).size : Int)).toArray⟩ : ByteArray) ++ (x.extract 0 (min (x.size : Int) 100).toNat)) = ⟨(encAll (P.take (k + 1))).toArray⟩ := bytes_ext (by
        rw [HSNN.out]
        have h1 := cut100 x
        simp only [← h1]
        simp)
      have hYl : ((⟨(encInt ((x.extract 0 (min (x.size : Int) 100).toNat).size : Int)).toArray⟩ : ByteArray) ++ (x.extract 0 (min (x.size : Int) 100).toNat)).size ≤ 109 := by
        have h4 : (encInt ((x.extract 0 (min (x.size : Int) 100).toNat).size : Int)).length ≤ 9 := enc_len _ _
        rw [ByteArray.size_append, mk_size]
        omega
      generalize (⟨(encInt ((x.extract 0 (min (x.size : Int) 100).toNat).size : Int)).toArray⟩ : ByteArray) ++ (x.extract 0 (min (x.size : Int) 100).toNat) = Y at *
      have hAl : (encAll (P.take k)).length ≤ 2360 := by
        have h5 := encAll_le (P.take k) (fun p hp => HPB.out p (List.mem_of_mem_take hp))
        have h6 : (P.take k).length ≤ k := by simp; omega
        omega
      generalize encAll (P.take k) = A at *
      generalize encInt (numFrom z) = B at *
      have KK := Lib.hid K2
      have HSS := Lib.hid HSTR
      clear hxl K2 HSTR HSNN
      go_wp2_with fail
      go_region_with (go_at_call 19; refine (KK.out _).mono ?_; rintro e w4 ⟨rfl, b4⟩)
      all_goals
        go_wp2_with fail
      all_goals exact ⟨⟨k + 1, by omega, by go_num, congrArg Value.string HSS.out, belowOver (belowOver (belowOver bw (Nat.le_refl _) b2) (Nat.le_refl _) b3).drew (Nat.le_refl _) b4⟩, by simp [intOf]; omega⟩
    · obtain rfl : k = n := by omega
      have hPk : P.take k = P := List.take_of_length_le (by rw [HPL.out]; exact Nat.le_refl _)
      rw [hPk]
      obtain ⟨S, hS⟩ : ∃ S : ByteArray, ⟨(encAll P).toArray⟩ = S := ⟨_, rfl⟩
      have hSd : S.data.toList = encAll P := by rw [← hS]
      have hSl : S.size = (encAll P).length := by rw [← hSd, bytes_len]
      have hAl : (encAll P).length ≤ 2360 := by
        have h5 := encAll_le P HPB.out
        rw [HPL.out] at h5
        omega
      rw [hS]
      have HSD := Lib.hid hSd
      have HSM : Hid (S.size ≤ maxLen) := Lib.hid (by unfold maxLen; omega)
      have HPK := Lib.hid hPk
      have HALL : Hid (∀ j, (encAll (P.take j)).length ≤ 2360) := Lib.hid (fun j => by
        have h5 := encAll_le (P.take j) (fun p hp => HPB.out p (List.mem_of_mem_take hp))
        have h6 : (P.take j).length ≤ P.length := by simp; omega
        rw [HPL.out] at h6
        omega)
      have HSL' := Lib.hid hSl
      clear hS hSd hSl hAl hPk
      go_wp2_with fail
      go_loopw [13, 14] (fun at' i wq => ∃ j : Nat, j ≤ k ∧ i = .int .i64 j ∧ at' = .int .i64 ((encAll (P.take j)).length : Int) ∧ Below w.heap.size w wq) (fun _ i _ => k - (intOf i).toNat)
      case atStart => exact ⟨0, Nat.zero_le _, rfl, by simp [encAll], bw⟩
      case round =>
        obtain ⟨j, hj, rfl, rfl, bq⟩ := hrel
        by_cases hlt2 : j < k
        · obtain ⟨bz, oz, rfl, cz⟩ := HZA.out.resolve_left (by omega)
          obtain ⟨bs, os, rfl, cs⟩ := HSA.out.resolve_left (by omega)
          have dz := cellOver bq (cz j (by omega))
          have ds := cellOver bq (cs j (by omega))
          have CZ := Lib.hid cz
          have CS := Lib.hid cs
          clear cz cs
          have hz := HZG.out j hlt2
          have hs := HSG.out j hlt2
          unfold maxLen at hs
          have hjP : j < P.length := by rw [HPL.out]; exact hlt2
          have hPA := HPA.out j hjP
          generalize hZ : zs.getD j 0 = z at *
          generalize hS : ss.getD j ByteArray.empty = x at *
          obtain ⟨M, m1, m2⟩ := seq_dec P S HSD.out HSM.out j hjP z x hPA
          have n1 := fun wx => numberFrom_any z wx hz.1 hz.2
          have hA1 := HALL.out j
          have hA2 := HALL.out (j + 1)
          generalize hE2 : (encAll (P.take (j + 1))).length = A2 at *
          generalize (encAll (P.take j)).length = A1 at *
          have N1 := Lib.hid n1
          have M1 := Lib.hid m1
          have M2 := Lib.hid m2
          have HE2 := Lib.hid hE2
          have hltna : (j : Int) < na := by omega
          have hltnb : (j : Int) < nb := by omega
          clear n1 m1 m2 hZ hS hz hPA hE2
          go_wp2_with fail
          refine (M1.out _).mono ?_
          rintro e w5 ⟨rfl, rfl⟩
          go_wp2_with fail
          refine (M2.out _).mono ?_
          rintro e w6 ⟨rfl, b6⟩
          have dz6 := cellOver b6 dz
          have ds6 := cellOver b6 ds
          go_wp2_with fail
          have hm0 : (0 : Int) ≤ min (x.size : Int) 100 := by omega
          have hm1 : min (x.size : Int) 100 ≤ (x.size : Int) := by omega
          go_region_held3 (fun w' => w'.cell? ⟨bz, oz + j, none⟩ = some (.int .i64 z) ∧ w'.cell? ⟨bs, os + j, none⟩ = some (.string x)) (go_keep) ((go_at_call 11; refine (N1.out _).mono ?_; rintro e w7 ⟨rfl, b7⟩; have dz7 := cellOver b7 (show (World.drew _).cell? _ = some (.int .i64 z) from dz6); have ds7 := cellOver b7 (show (World.drew _).cell? _ = some (.string x) from ds6)))
          all_goals go_wp2_with fail
          all_goals exact ⟨⟨j + 1, by omega, by go_num, by rw [HE2.out], belowOver (belowOver bq (Nat.le_refl _) b6).drew (Nat.le_refl _) b7⟩, by simp [intOf]; omega⟩
        · obtain rfl : j = k := by omega
          rw [HPK.out, ← HSL'.out]
          have hse := fun wx => seq_end P S HSD.out HSM.out wx
          rw [← HSL'.out] at hse
          have HSE := Lib.hid hse
          clear hse
          go_wp2_with fail
          refine (HSE.out _).mono ?_
          rintro e w8 ⟨rfl, rfl⟩
          go_wp2
          go_ret
          exact ⟨rfl, bq⟩
end Go.Proofs.YtpondhlijlbmfaaDoor
