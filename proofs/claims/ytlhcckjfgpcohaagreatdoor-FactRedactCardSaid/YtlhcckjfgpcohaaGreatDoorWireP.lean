/- Layer 1 without any program: integers in groups of seven bits, and the checksum as one linear map. -/
namespace Go.Proofs.YtlhcckjfgpcohaaGreatDoor
def zz (n : Int) : Int := if n < 0 then -2 * n - 1 else 2 * n
def unzz (z : Int) : Int := if z % 2 = 1 then -(z / 2) - 1 else z / 2
theorem unzz_zz (n : Int) : unzz (zz n) = n := by unfold unzz zz; split <;> split <;> omega
theorem zz_unzz (z : Int) (h : 0 ≤ z) : zz (unzz z) = z := by unfold unzz zz; split <;> split <;> omega
theorem zz_nonneg (n : Int) : 0 ≤ zz n := by unfold zz; split <;> omega
theorem zz_lt (n : Int) (h1 : -4611686018427387903 ≤ n) (h2 : n ≤ 4611686018427387903) : zz n < 9223372036854775807 := by unfold zz; split <;> omega
theorem zz_inj {m n : Int} (h : zz m = zz n) : m = n := by rw [← unzz_zz m, ← unzz_zz n, h]

/-- The groups of z, with fuel for one group more than k. -/
def enc : Nat → Nat → List UInt8
  | 0, z => [UInt8.ofNat z]
  | k + 1, z => if z ≤ 127 then [UInt8.ofNat z] else UInt8.ofNat (z % 128 + 128) :: enc k (z / 128)
def encInt (n : Int) : List UInt8 := enc 8 (zz n).toNat
/-- What is decoded from l on, i groups with the value z having been read; (0, 0) if nothing is. -/
def jn : Nat → Nat → Nat → List UInt8 → Nat × Nat
  | 0, _, _, _ => (0, 0)
  | _ + 1, _, _, [] => (0, 0)
  | k + 1, i, z, b :: r => if 128 ≤ b.toNat then jn k (i + 1) (z + (b.toNat % 128) * 128 ^ i) r
      else if b.toNat = 0 ∧ 0 < i then (0, 0) else (z + (b.toNat % 128) * 128 ^ i, i + 1)

theorem enc_ne (k z : Nat) : enc k z ≠ [] := by cases k <;> unfold enc <;> (try split) <;> simp
theorem enc_len (k z : Nat) : (enc k z).length ≤ k + 1 := by
  induction k generalizing z with
  | zero => simp [enc]
  | succ k ih => unfold enc; split <;> simp; exact ih _
theorem enc_pos (k z : Nat) : 0 < (enc k z).length := List.length_pos_iff.2 (enc_ne k z)

theorem jn_enc (k : Nat) : ∀ (i z v : Nat) (r : List UInt8), v < 128 ^ (k + 1) → (i = 0 ∨ 0 < v) → jn (k + 1) i z (enc k v ++ r) = (z + v * 128 ^ i, i + (enc k v).length) := by
  induction k with
  | zero =>
    intro i z v r hv hi
    have h1 : v < 128 := by simpa using hv
    have h2 : v % 2 ^ 8 = v := Nat.mod_eq_of_lt (by omega)
    have h3 : v % 128 = v := Nat.mod_eq_of_lt h1
    simp only [enc, jn, List.cons_append, UInt8.toNat_ofNat', h2, h3, List.length_cons, List.length_nil]
    rw [if_neg (by omega), if_neg (by omega)]
  | succ k ih =>
    intro i z v r hv hi
    unfold enc
    by_cases h : v ≤ 127
    · have h2 : v % 2 ^ 8 = v := Nat.mod_eq_of_lt (by omega)
      have h3 : v % 128 = v := Nat.mod_eq_of_lt (by omega)
      rw [if_pos h]
      simp only [jn, List.cons_append, UInt8.toNat_ofNat', h2, h3, List.length_cons, List.length_nil]
      rw [if_neg (by omega), if_neg (by omega)]
    · rw [if_neg h]
      have h2 : (v % 128 + 128) % 2 ^ 8 = v % 128 + 128 := Nat.mod_eq_of_lt (by omega)
      have h3 : (v % 128 + 128) % 128 = v % 128 := by omega
      simp only [jn, List.cons_append, UInt8.toNat_ofNat', h2, h3, List.length_cons]
      rw [if_pos (by omega), ih (i + 1) _ (v / 128) r (by rw [Nat.div_lt_iff_lt_mul (by omega)]; rw [Nat.pow_succ] at hv; exact hv) (.inr (by omega))]
      have h4 : v % 128 * 128 ^ i + v / 128 * 128 ^ (i + 1) = v * 128 ^ i := by
        rw [Nat.pow_succ, ← Nat.mul_assoc, Nat.mul_right_comm, ← Nat.add_mul]
        congr 1
        omega
      simp only [Prod.mk.injEq]
      omega

theorem jn_some (k : Nat) : ∀ (i z : Nat) (l : List UInt8), (jn (k + 1) i z l).2 ≠ 0 → ∃ v, v < 128 ^ (k + 1) ∧ (i = 0 ∨ 0 < v) ∧ jn (k + 1) i z l = (z + v * 128 ^ i, i + (enc k v).length) ∧ enc k v <+: l := by
  induction k with
  | zero =>
    intro i z l h
    cases l with
    | nil => simp [jn] at h
    | cons b r =>
      simp only [jn] at h ⊢
      by_cases hb : 128 ≤ b.toNat
      · simp [hb] at h
      · simp only [if_neg hb] at h ⊢
        by_cases hz : b.toNat = 0 ∧ 0 < i
        · simp [hz] at h
        · simp only [if_neg hz]
          have h3 : b.toNat % 128 = b.toNat := Nat.mod_eq_of_lt (by omega)
          refine ⟨b.toNat, by omega, by omega, by simp [enc, h3], ?_⟩
          simp [enc]
  | succ k ih =>
    intro i z l h
    cases l with
    | nil => simp [jn] at h
    | cons b r =>
      have hb8 := b.toNat_lt
      rw [jn] at h ⊢
      by_cases hb : 128 ≤ b.toNat
      · simp only [if_pos hb] at h ⊢
        obtain ⟨v, hv, hp, he, hpre⟩ := ih (i + 1) _ r h
        refine ⟨b.toNat % 128 + 128 * v, ?_, by omega, ?_, ?_⟩
        · rw [Nat.pow_succ]; omega
        · have hd : (b.toNat % 128 + 128 * v) / 128 = v := by omega
          rw [he]
          rw [enc, if_neg (by omega), hd]
          simp only [List.length_cons, Prod.mk.injEq]
          refine ⟨?_, by omega⟩
          rw [Nat.add_mul, Nat.pow_succ, Nat.add_assoc]
          congr 2
          rw [Nat.mul_comm (128 ^ i) 128, ← Nat.mul_assoc, Nat.mul_comm v 128]
        · have hd : (b.toNat % 128 + 128 * v) / 128 = v := by omega
          have hm : (b.toNat % 128 + 128 * v) % 128 + 128 = b.toNat := by omega
          rw [enc, if_neg (by omega), hd, hm]
          simpa using hpre
      · simp only [if_neg hb] at h ⊢
        by_cases hz : b.toNat = 0 ∧ 0 < i
        · simp [hz] at h
        · simp only [if_neg hz]
          have h3 : b.toNat % 128 = b.toNat := Nat.mod_eq_of_lt (by omega)
          refine ⟨b.toNat, ?_, by omega, ?_, ?_⟩
          · have : 128 ^ 1 ≤ 128 ^ (k + 1 + 1) := Nat.pow_le_pow_right (by omega) (by omega)
            omega
          · rw [enc, if_pos (by omega), h3]; rfl
          · rw [enc, if_pos (by omega)]; simp
theorem jn_zero (k : Nat) : ∀ (i z : Nat) (l : List UInt8), (jn k i z l).2 = 0 → jn k i z l = (0, 0) := by
  induction k with
  | zero => intro i z l _; rfl
  | succ k ih =>
    intro i z l h
    cases l with
    | nil => rfl
    | cons b r =>
      rw [jn] at h ⊢
      by_cases hb : 128 ≤ b.toNat
      · simp only [if_pos hb] at h ⊢
        exact ih _ _ _ h
      · simp only [if_neg hb] at h ⊢
        by_cases hz : b.toNat = 0 ∧ 0 < i
        · simp [hz]
        · simp [hz] at h

/-- What Int makes of the bytes that begin at an offset: the value and its length; nothing where its length is 0 or the value has no encoding. -/
def dcd (l : List UInt8) : Nat × Nat := jn 9 0 0 l
def okInt (n : Int) : Bool := decide (-4611686018427387903 ≤ n ∧ n ≤ 4611686018427387903)
def good (l : List UInt8) : Bool := (dcd l).2 != 0 && okInt (unzz (dcd l).1)
theorem okInt_iff (n : Int) : okInt n = true ↔ -4611686018427387903 ≤ n ∧ n ≤ 4611686018427387903 := by simp [okInt]
theorem dcd_enc (n : Int) (h : okInt n = true) (r : List UInt8) : dcd (encInt n ++ r) = ((zz n).toNat, (encInt n).length) := by
  have hz := zz_lt n ((okInt_iff n).1 h).1 ((okInt_iff n).1 h).2
  have h0 := zz_nonneg n
  have := jn_enc 8 0 0 (zz n).toNat r (by omega) (.inl rfl)
  simpa [dcd, encInt] using this
theorem good_enc (n : Int) (h : okInt n = true) (r : List UInt8) : good (encInt n ++ r) = true := by
  have h0 := zz_nonneg n
  rw [good, dcd_enc n h r]
  have h1 : (((zz n).toNat : Nat) : Int) = zz n := Int.toNat_of_nonneg h0
  have h2 := enc_pos 8 (zz n).toNat
  simp only [h1, unzz_zz, h, Bool.and_true, bne_iff_ne, encInt]
  omega
/-- WHAT IS ACCEPTED BEGINS WITH THE ENCODING OF THE VALUE. -/
theorem dcd_some (l : List UInt8) (h : (dcd l).2 ≠ 0) : (dcd l).1 < 9223372036854775808 ∧ (dcd l).2 = (enc 8 (dcd l).1).length ∧ enc 8 (dcd l).1 <+: l := by
  obtain ⟨v, hv, _, he, hp⟩ := jn_some 8 0 0 l h
  have he' : dcd l = (v, (enc 8 v).length) := by simpa [dcd] using he
  rw [he']
  exact ⟨by omega, rfl, hp⟩
theorem good_some (l : List UInt8) (h : good l = true) : okInt (unzz (dcd l).1) = true ∧ (dcd l).2 = (encInt (unzz (dcd l).1)).length ∧ encInt (unzz (dcd l).1) <+: l := by
  simp only [good, Bool.and_eq_true, bne_iff_ne] at h
  obtain ⟨h1, h2, h3⟩ := dcd_some l h.1
  have e : encInt (unzz (dcd l).1) = enc 8 (dcd l).1 := by rw [encInt, zz_unzz _ (by omega), Int.toNat_natCast]
  rw [e]
  exact ⟨h.2, h2, h3⟩
theorem dcd_le (l : List UInt8) : (dcd l).2 ≤ l.length := by
  by_cases h : (dcd l).2 = 0
  · omega
  · obtain ⟨_, h2, h3⟩ := dcd_some l h
    rw [h2]; exact h3.length_le
theorem dcd_9 (l : List UInt8) : (dcd l).2 ≤ 9 := by
  by_cases h : (dcd l).2 = 0
  · omega
  · obtain ⟨_, h2, h3⟩ := dcd_some l h
    rw [h2]; exact enc_len _ _

/-! ### The checksum -/
def crcP : Nat := 2197175160
def stp (r : Nat) : Nat := r / 2 ^^^ (if r % 2 = 1 then crcP else 0)
def stpN : Nat → Nat → Nat
  | 0, r => r
  | k + 1, r => stpN k (stp r)
theorem xor_ite (c d : Prop) [Decidable c] [Decidable d] [Decidable (¬(c ↔ d))] (p : Nat) : (if c then p else 0) ^^^ (if d then p else 0) = if ¬(c ↔ d) then p else 0 := by
  by_cases hc : c <;> by_cases hd : d <;> simp [hc, hd]
theorem stp_xor (a b : Nat) : stp (a ^^^ b) = stp a ^^^ stp b := by
  have h1 : (a ^^^ b) / 2 = a / 2 ^^^ b / 2 := Nat.xor_div_two
  have h2 : ((a ^^^ b) % 2 = 1) ↔ ¬((a % 2 = 1) ↔ (b % 2 = 1)) := by
    have := @Nat.xor_mod_two_eq_one a b
    exact this
  have h3 := xor_ite (a % 2 = 1) (b % 2 = 1) crcP
  have h4 : (if (a ^^^ b) % 2 = 1 then crcP else 0) = (if a % 2 = 1 then crcP else 0) ^^^ (if b % 2 = 1 then crcP else 0) := by
    rw [h3]; simp only [h2]
  unfold stp
  rw [h1, h4]
  simp only [Nat.xor_assoc]
  congr 1
  simp only [← Nat.xor_assoc]
  rw [Nat.xor_comm (b / 2)]
theorem stpN_xor (k : Nat) : ∀ a b, stpN k (a ^^^ b) = stpN k a ^^^ stpN k b := by
  induction k with
  | zero => intro a b; rfl
  | succ k ih => intro a b; simp only [stpN, stp_xor, ih]
theorem stpN_add (m n r : Nat) : stpN (m + n) r = stpN n (stpN m r) := by
  induction m generalizing r with
  | zero => simp [stpN]
  | succ m ih => rw [Nat.add_right_comm]; simp only [stpN]; exact ih _
theorem stp_two (x : Nat) : stp (2 * x) = x := by simp [stp]
theorem stpN_pow (k x : Nat) : stpN k (2 ^ k * x) = x := by
  induction k generalizing x with
  | zero => simp [stpN]
  | succ k ih => rw [stpN, Nat.pow_succ, Nat.mul_comm (2 ^ k) 2, Nat.mul_assoc, stp_two, ih]
theorem stp_lt (r : Nat) (h : r < 4294967296) : stp r < 4294967296 := by
  have h1 : r / 2 < 2 ^ 32 := by omega
  have h2 : (if r % 2 = 1 then crcP else 0) < 2 ^ 32 := by unfold crcP; split <;> decide
  exact Nat.xor_lt_two_pow h1 h2
theorem stpN_lt (k r : Nat) (h : r < 4294967296) : stpN k r < 4294967296 := by
  induction k generalizing r with
  | zero => exact h
  | succ k ih => exact ih _ (stp_lt r h)
theorem xor_zero {a b : Nat} (h : a ^^^ b = 0) : a = b := by
  have h1 : a ^^^ (a ^^^ b) = b := by rw [← Nat.xor_assoc, Nat.xor_self, Nat.zero_xor]
  rw [h, Nat.xor_zero] at h1
  exact h1
theorem stp_zero (r : Nat) (h : r < 4294967296) (hz : stp r = 0) : r = 0 := by
  unfold stp at hz
  have he := xor_zero hz
  unfold crcP at he
  split at he <;> omega
theorem stpN_zero (k r : Nat) (h : r < 4294967296) (hz : stpN k r = 0) : r = 0 := by
  induction k generalizing r with
  | zero => exact hz
  | succ k ih => exact stp_zero r h (ih _ (stp_lt r h) hz)
theorem stpN_of_zero (k : Nat) : stpN k 0 = 0 := by
  induction k with
  | zero => rfl
  | succ k ih => rw [stpN]; exact ih

/-- The register behind the bytes l. -/
def crcR (l : List UInt8) (r : Nat) : Nat := l.foldl (fun r b => stpN 8 (r ^^^ b.toNat)) r
def crc (l : List UInt8) : Nat := crcR l 4294967295 ^^^ 4294967295
/-- The bytes as one number, the first one lowest. -/
def val : List UInt8 → Nat
  | [] => 0
  | b :: r => b.toNat + 256 * val r
theorem val_lt (l : List UInt8) : val l < 2 ^ (8 * l.length) := by
  induction l with
  | nil => simp [val]
  | cons b r ih =>
    have := b.toNat_lt
    simp only [val, List.length_cons, Nat.mul_add, Nat.pow_add]
    omega
theorem add_xor (b v : Nat) (h : b < 256) : b + 256 * v = b ^^^ 256 * v := by
  have h1 := Nat.two_pow_add_eq_or_of_lt (i := 8) (b := b) (by simpa using h) v
  have h2 : 256 * v ^^^ b = 256 * v ||| b := by
    apply Nat.eq_of_testBit_eq
    intro i
    rw [Nat.testBit_xor, Nat.testBit_or, show (256 : Nat) = 2 ^ 8 from rfl, Nat.testBit_two_pow_mul]
    by_cases hi : 8 ≤ i
    · have : b.testBit i = false := Nat.testBit_lt_two_pow (Nat.lt_of_lt_of_le h (by have := Nat.pow_le_pow_right (n := 2) (by omega) hi; simpa using this))
      simp [this]
    · simp [hi]
  rw [Nat.xor_comm, h2, Nat.add_comm]
  simpa using h1
theorem crcR_eq (l : List UInt8) : ∀ r, crcR l r = stpN (8 * l.length) (r ^^^ val l) := by
  induction l with
  | nil => intro r; simp [crcR, val, stpN]
  | cons b l ih =>
    intro r
    have h : crcR (b :: l) r = crcR l (stpN 8 (r ^^^ b.toNat)) := rfl
    rw [h, ih, val, add_xor _ _ b.toNat_lt, ← Nat.xor_assoc, List.length_cons, Nat.mul_add, Nat.add_comm, stpN_add, stpN_xor 8 (r ^^^ b.toNat)]
    congr 2
    exact (stpN_pow 8 _).symm
theorem crcR_lt (l : List UInt8) (r : Nat) (h : r < 4294967296) : crcR l r < 4294967296 := by
  induction l generalizing r with
  | nil => exact h
  | cons b l ih =>
    refine ih _ (stpN_lt 8 _ ?_)
    have h2 : b.toNat < 2 ^ 32 := by have := b.toNat_lt; omega
    exact Nat.xor_lt_two_pow (n := 32) h h2
theorem crc_lt (l : List UInt8) : crc l < 4294967296 := by
  have h2 : 4294967295 < 2 ^ 32 := by decide
  exact Nat.xor_lt_two_pow (n := 32) (crcR_lt l _ (by decide)) h2
theorem xor_inj {a b c : Nat} (h : a ^^^ c = b ^^^ c) : a = b := by
  have := congrArg (· ^^^ c) h
  simpa [Nat.xor_assoc] using this

theorem xor_self_right {p x : Nat} (h : p = p ^^^ x) : x = 0 := by
  have h1 : p ^^^ (p ^^^ x) = x := by rw [← Nat.xor_assoc, Nat.xor_self, Nat.zero_xor]
  rw [← h, Nat.xor_self] at h1
  exact h1.symm
/-- A CHANGE OF FEWER THAN 33 CONSECUTIVE BITS, the first one at 'at' (bits counted from the lowest one of the first byte): the checksum changes. -/
theorem crc_burst (a b : List UInt8) (at' x : Nat) (hl : a.length = b.length) (hx : x < 4294967296) (hat : at' ≤ 8 * a.length) (h : val b = val a ^^^ 2 ^ at' * x) : crc a = crc b ↔ x = 0 := by
  constructor
  · intro he
    have h1 := xor_inj he
    rw [crcR_eq, crcR_eq, ← hl, h, stpN_xor, stpN_xor, stpN_xor _ (val a)] at h1
    have h2 : stpN (8 * a.length) (2 ^ at' * x) = 0 := xor_self_right (by rw [Nat.xor_assoc]; exact h1)
    obtain ⟨m, hm⟩ : ∃ m, 8 * a.length = at' + m := ⟨8 * a.length - at', by omega⟩
    rw [hm, stpN_add, stpN_pow] at h2
    exact stpN_zero m x hx h2
  · intro he
    have h1 : val b = val a := by rw [h, he]; simp
    unfold crc
    rw [crcR_eq, crcR_eq, ← hl, h1]
theorem crc_affine (a b c x : List UInt8) (hb : b.length = a.length) (hc : c.length = a.length) (hx : x.length = a.length) (h : val x = val a ^^^ val b ^^^ val c) : crc x = crc a ^^^ crc b ^^^ crc c := by
  unfold crc
  rw [crcR_eq, crcR_eq, crcR_eq, crcR_eq, hb, hc, hx, h]
  simp only [stpN_xor]
  generalize stpN (8 * a.length) (val a) = p
  generalize stpN (8 * a.length) (val b) = q
  generalize stpN (8 * a.length) (val c) = s
  generalize stpN (8 * a.length) 4294967295 = f
  generalize (4294967295 : Nat) = g
  apply Nat.eq_of_testBit_eq
  intro i
  simp only [Nat.testBit_xor]
  cases p.testBit i <;> cases q.testBit i <;> cases s.testBit i <;> cases f.testBit i <;> cases g.testBit i <;> rfl

/-! ### One bit of one byte -/
theorem val_set (l : List UInt8) : ∀ (k : Nat) (b' : UInt8) (p : Nat), (h : k < l.length) → b'.toNat = (l[k]).toNat ^^^ p → p < 256 → val (l.set k b') = val l ^^^ 256 ^ k * p := by
  induction l with
  | nil => intro k b' p h; simp at h
  | cons b r ih =>
    intro k b' p h hb hp
    cases k with
    | zero =>
      simp only [List.getElem_cons_zero] at hb
      simp only [List.set_cons_zero, val, Nat.pow_zero, Nat.one_mul]
      rw [add_xor _ _ b'.toNat_lt, add_xor _ _ b.toNat_lt, hb]
      simp only [Nat.xor_assoc]
      rw [Nat.xor_comm p]
    | succ k =>
      simp only [List.getElem_cons_succ] at hb
      have := ih k b' p (by simpa using h) hb hp
      simp only [List.set_cons_succ, val]
      rw [add_xor _ _ b.toNat_lt, add_xor _ _ b.toNat_lt, this, Nat.xor_assoc]
      congr 1
      have h256 : ∀ y z : Nat, 256 * (y ^^^ z) = 256 * y ^^^ 256 * z := by
        intro y z
        have := @Nat.shiftLeft_xor_distrib 8 y z
        simpa [Nat.shiftLeft_eq, Nat.mul_comm] using this
      rw [h256, Nat.pow_succ, Nat.mul_comm (256 ^ k) 256, Nat.mul_assoc]

/-! ### The numbers that the statements draw -/
def pck (c n : Int) : Int := (if c < 0 then -(c + 1) else c) % n
theorem pck_lo (c n : Int) (hn : 0 < n) : 0 ≤ pck c n := Int.emod_nonneg _ (by omega)
theorem pck_hi (c n : Int) (hn : 0 < n) : pck c n < n := Int.emod_lt_of_pos _ hn
def tbl8 (i : Int) : Int := if i = 0 then 64 else if i = 1 then 128 else if i = 2 then 8192 else if i = 3 then 16384 else if i = 4 then 1073741824 else if i = 5 then 36028797018963968 else if i = 6 then 576460752303423488 else 2
theorem tbl8_pos (i : Int) : 1 ≤ tbl8 i ∧ tbl8 i ≤ 576460752303423488 := by unfold tbl8; repeat' split
                                                                            all_goals omega
def numAbs (c : Int) : Int := pck (pck c 4611686018427387904 / 8) (tbl8 (pck c 8))
def numFrom (c : Int) : Int := if 8 ≤ pck c 16 then -numAbs c else numAbs c
theorem numAbs_bd (c : Int) : 0 ≤ numAbs c ∧ numAbs c < 576460752303423488 := by
  have h := tbl8_pos (pck c 8)
  have h1 := pck_lo (pck c 4611686018427387904 / 8) (tbl8 (pck c 8)) (by omega)
  have h2 := pck_hi (pck c 4611686018427387904 / 8) (tbl8 (pck c 8)) (by omega)
  unfold numAbs
  omega
theorem numFrom_ok (c : Int) : okInt (numFrom c) = true := by
  have := numAbs_bd c
  rw [okInt_iff]
  unfold numFrom
  split <;> omega
end Go.Proofs.YtlhcckjfgpcohaaGreatDoor
