/- Labels as plain data: what is valid, the same, joined, at most as strict, allowed; and the laws of these. -/
namespace Go.Proofs.YtlhcckjfgpcohaaGreatDoor
structure Lab where
  u : Int
  af : List Int
  ap : Int
  d : Int
def ids : List Int := (List.range 64).map fun (i : Nat) => (i : Int) + 1
def bitB (d : Int) (c : Nat) : Bool := decide (d / 2 ^ c % 2 = 1)
def withinB (lo hi : Int) (zs : List Int) : Bool := zs.all fun z => decide (lo ≤ z ∧ z ≤ hi)
def ascB (zs : List Int) : Bool := decide (zs.Pairwise (· < ·))
def Ok (l : Lab) : Prop := (0 ≤ l.u ∧ l.u ≤ 1000000000) ∧ (∀ z ∈ l.af, 1 ≤ z ∧ z ≤ 64) ∧ l.af.Pairwise (· < ·) ∧ (0 ≤ l.ap ∧ l.ap ≤ 5) ∧ (0 ≤ l.d ∧ l.d ≤ 15)
def validB (l : Lab) : Bool := withinB 0 1000000000 [l.u] && (withinB 1 64 l.af && (ascB l.af && (withinB 0 5 [l.ap] && withinB 0 15 [l.d])))
def sameB (l m : Lab) : Bool := decide (l.u = m.u) && (decide (l.af = m.af) && (decide (l.ap = m.ap) && decide (l.d = m.d)))
def subD (a b : Int) : Bool := (List.range 4).all fun c => !bitB a c || bitB b c
def orD (a b : Int) : Int := ((a.toNat ||| b.toNat : Nat) : Int)
def leB (l m : Lab) : Bool := decide (l.u ≤ m.u) && (l.af.all (fun z => m.af.contains z) && (decide (l.ap ≤ m.ap) && subD l.d m.d))
def leqB (l m : Lab) : Bool := validB l && (validB m && leB l m)
def uni (a b : List Int) : List Int := ids.filter fun z => a.contains z || b.contains z
def zeroL : Lab := ⟨0, [], 0, 0⟩
def joinV (l m : Lab) : Lab := ⟨max l.u m.u, uni l.af m.af, max l.ap m.ap, orD l.d m.d⟩
def joinL (l m : Lab) : Lab := if validB l && validB m then joinV l m else zeroL
def allB (l : Lab) (cls now : Int) (out : List Int) (n : Int) : Bool :=
  validB l && (decide (0 ≤ cls ∧ cls ≤ 3) && (!bitB l.d cls.toNat && (decide (l.u ≤ now) && (decide (l.ap ≤ n) && l.af.all (fun z => out.contains z)))))

theorem lab_ext {l m : Lab} (h1 : l.u = m.u) (h2 : l.af = m.af) (h3 : l.ap = m.ap) (h4 : l.d = m.d) : l = m := by cases l; cases m; simp_all
theorem withinB_iff (lo hi : Int) (zs : List Int) : withinB lo hi zs = true ↔ ∀ z ∈ zs, lo ≤ z ∧ z ≤ hi := by simp [withinB]
theorem withinB_one (lo hi z : Int) : withinB lo hi [z] = decide (lo ≤ z ∧ z ≤ hi) := by simp [withinB]
theorem ascB_iff (zs : List Int) : ascB zs = true ↔ zs.Pairwise (· < ·) := by simp [ascB]
theorem validB_iff (l : Lab) : validB l = true ↔ Ok l := by
  simp only [validB, Bool.and_eq_true, withinB_iff, ascB_iff, Ok, List.mem_singleton, forall_eq]
theorem validB_of {l : Lab} (h : Ok l) : validB l = true := (validB_iff l).2 h
theorem sameB_iff (l m : Lab) : sameB l m = true ↔ l = m := by
  constructor
  · intro h
    simp only [sameB, Bool.and_eq_true, decide_eq_true_eq] at h
    exact lab_ext h.1 h.2.1 h.2.2.1 h.2.2.2
  · rintro rfl; simp [sameB]
theorem ids_mem (z : Int) : z ∈ ids ↔ 1 ≤ z ∧ z ≤ 64 := by
  simp only [ids, List.mem_map, List.mem_range]
  constructor
  · rintro ⟨i, hi, rfl⟩; omega
  · intro h; exact ⟨(z - 1).toNat, by omega, by omega⟩
theorem ids_asc : ids.Pairwise (· < ·) := by
  unfold ids
  rw [List.pairwise_map]
  exact List.pairwise_lt_range.imp (by intro a b h; omega)
theorem uni_mem (a b : List Int) (z : Int) : z ∈ uni a b ↔ (1 ≤ z ∧ z ≤ 64) ∧ (z ∈ a ∨ z ∈ b) := by
  simp [uni, ids_mem]
theorem uni_asc (a b : List Int) : (uni a b).Pairwise (· < ·) := List.Pairwise.filter _ ids_asc
/-- Two ascending lists with the same members are the same. -/
theorem asc_ext : ∀ {a b : List Int}, a.Pairwise (· < ·) → b.Pairwise (· < ·) → (∀ z, z ∈ a ↔ z ∈ b) → a = b
  | [], [], _, _, _ => rfl
  | [], y :: b, _, _, h => absurd ((h y).2 List.mem_cons_self) (by simp)
  | x :: a, [], _, _, h => absurd ((h x).1 List.mem_cons_self) (by simp)
  | x :: a, y :: b, ha, hb, h => by
    rw [List.pairwise_cons] at ha hb
    have hxy : x = y := by
      have h1 := (h x).1 List.mem_cons_self
      have h2 := (h y).2 List.mem_cons_self
      rw [List.mem_cons] at h1 h2
      rcases h1 with rfl | h1
      · rfl
      · rcases h2 with h2 | h2
        · exact h2.symm
        · have := ha.1 y h2; have := hb.1 x h1; omega
    subst hxy
    rw [asc_ext ha.2 hb.2 (fun z => by
      have := h z
      simp only [List.mem_cons] at this
      constructor
      · intro hz
        have hlt := ha.1 z hz
        rcases this.1 (.inr hz) with e | e
        · omega
        · exact e
      · intro hz
        have hlt := hb.1 z hz
        rcases this.2 (.inr hz) with e | e
        · omega
        · exact e)]
/- bits: finite checks -/
theorem cast15 {d : Int} (h : 0 ≤ d ∧ d ≤ 15) : ∃ n : Fin 16, d = ((n : Nat) : Int) := ⟨⟨d.toNat, by omega⟩, by simp; omega⟩
theorem bits_or : ∀ (a b : Fin 16) (c : Fin 4), bitB (orD ((a : Nat) : Int) ((b : Nat) : Int)) c = (bitB ((a : Nat) : Int) c || bitB ((b : Nat) : Int) c) := by decide +kernel
theorem bits_eq : ∀ a b : Fin 16, (∀ c : Fin 4, bitB ((a : Nat) : Int) c = bitB ((b : Nat) : Int) c) → ((a : Nat) : Int) = ((b : Nat) : Int) := by decide +kernel
theorem or_bd : ∀ a b : Fin 16, 0 ≤ orD ((a : Nat) : Int) ((b : Nat) : Int) ∧ orD ((a : Nat) : Int) ((b : Nat) : Int) ≤ 15 := by decide +kernel
theorem bit_or {a b : Int} (ha : 0 ≤ a ∧ a ≤ 15) (hb : 0 ≤ b ∧ b ≤ 15) {c : Nat} (hc : c < 4) : bitB (orD a b) c = (bitB a c || bitB b c) := by
  obtain ⟨x, rfl⟩ := cast15 ha
  obtain ⟨y, rfl⟩ := cast15 hb
  exact bits_or x y ⟨c, hc⟩
theorem bit_ext {a b : Int} (ha : 0 ≤ a ∧ a ≤ 15) (hb : 0 ≤ b ∧ b ≤ 15) (h : ∀ c, c < 4 → bitB a c = bitB b c) : a = b := by
  obtain ⟨x, rfl⟩ := cast15 ha
  obtain ⟨y, rfl⟩ := cast15 hb
  exact bits_eq x y fun c => h c c.2
theorem or_le {a b : Int} (ha : 0 ≤ a ∧ a ≤ 15) (hb : 0 ≤ b ∧ b ≤ 15) : 0 ≤ orD a b ∧ orD a b ≤ 15 := by
  obtain ⟨x, rfl⟩ := cast15 ha
  obtain ⟨y, rfl⟩ := cast15 hb
  exact or_bd x y
theorem subD_iff (a b : Int) : subD a b = true ↔ ∀ c, c < 4 → bitB a c = true → bitB b c = true := by
  simp only [subD, List.all_eq_true, List.mem_range, Bool.or_eq_true, Bool.not_eq_true']
  constructor
  · intro h c hc hb
    rcases h c hc with e | e
    · rw [e] at hb; cases hb
    · exact e
  · intro h c hc
    cases hb : bitB a c
    · exact .inl rfl
    · exact .inr (h c hc hb)
theorem leB_iff (l m : Lab) : leB l m = true ↔ l.u ≤ m.u ∧ (∀ z ∈ l.af, z ∈ m.af) ∧ l.ap ≤ m.ap ∧ ∀ c, c < 4 → bitB l.d c = true → bitB m.d c = true := by
  simp [leB, subD_iff]
theorem leqB_of {l m : Lab} (hl : Ok l) (hm : Ok m) : leqB l m = leB l m := by simp [leqB, validB_of hl, validB_of hm]
theorem joinL_of {l m : Lab} (hl : Ok l) (hm : Ok m) : joinL l m = joinV l m := by simp [joinL, validB_of hl, validB_of hm]
theorem zero_ok : Ok zeroL := by simp [Ok, zeroL]
theorem joinV_ok {l m : Lab} (hl : Ok l) (hm : Ok m) : Ok (joinV l m) := by
  obtain ⟨h1, h2, h3, h4, h5⟩ := hl
  obtain ⟨g1, g2, g3, g4, g5⟩ := hm
  refine ⟨⟨?_, ?_⟩, fun z hz => ((uni_mem _ _ z).1 hz).1, uni_asc _ _, ⟨?_, ?_⟩, or_le h5 g5⟩ <;> simp only [joinV] <;> omega
theorem joinL_ok (l m : Lab) : Ok (joinL l m) := by
  unfold joinL
  split
  · rename_i h
    simp only [Bool.and_eq_true, validB_iff] at h
    exact joinV_ok h.1 h.2
  · exact zero_ok
theorem join_mem {l m : Lab} (hl : Ok l) (hm : Ok m) (z : Int) : z ∈ (joinV l m).af ↔ z ∈ l.af ∨ z ∈ m.af := by
  show z ∈ uni l.af m.af ↔ _
  rw [uni_mem]
  constructor
  · exact fun h => h.2
  · rintro (h | h)
    · exact ⟨hl.2.1 z h, .inl h⟩
    · exact ⟨hm.2.1 z h, .inr h⟩
theorem join_bit {l m : Lab} (hl : Ok l) (hm : Ok m) {c : Nat} (hc : c < 4) : bitB (joinV l m).d c = (bitB l.d c || bitB m.d c) := bit_or hl.2.2.2.2 hm.2.2.2.2 hc
/-- Valid labels with the same conditions are the same. -/
theorem ok_ext {l m : Lab} (hl : Ok l) (hm : Ok m) (h1 : l.u = m.u) (h2 : ∀ z, z ∈ l.af ↔ z ∈ m.af) (h3 : l.ap = m.ap) (h4 : ∀ c, c < 4 → bitB l.d c = bitB m.d c) : l = m :=
  lab_ext h1 (asc_ext hl.2.2.1 hm.2.2.1 h2) h3 (bit_ext hl.2.2.2.2 hm.2.2.2.2 h4)
theorem join_comm (l m : Lab) : joinL l m = joinL m l := by
  unfold joinL
  cases hl : validB l <;> cases hm : validB m <;> simp
  rw [validB_iff] at hl hm
  refine ok_ext (joinV_ok hl hm) (joinV_ok hm hl) (by simp only [joinV]; omega) (fun z => by rw [join_mem hl hm, join_mem hm hl, or_comm]) (by simp only [joinV]; omega) (fun c hc => by rw [join_bit hl hm hc, join_bit hm hl hc, Bool.or_comm])
theorem join_assoc {a b c : Lab} (ha : Ok a) (hb : Ok b) (hc : Ok c) : joinL (joinL a b) c = joinL a (joinL b c) := by
  have h1 := joinV_ok ha hb
  have h2 := joinV_ok hb hc
  rw [joinL_of ha hb, joinL_of hb hc, joinL_of h1 hc, joinL_of ha h2]
  refine ok_ext (joinV_ok h1 hc) (joinV_ok ha h2) (by simp only [joinV]; omega) (fun z => by rw [join_mem h1 hc, join_mem ha hb, join_mem ha h2, join_mem hb hc, or_assoc]) (by simp only [joinV]; omega) (fun k hk => by rw [join_bit h1 hc hk, join_bit ha hb hk, join_bit ha h2 hk, join_bit hb hc hk, Bool.or_assoc])
theorem join_idem {a : Lab} (ha : Ok a) : joinL a a = a := by
  rw [joinL_of ha ha]
  exact ok_ext (joinV_ok ha ha) ha (by simp only [joinV]; omega) (fun z => by rw [join_mem ha ha, or_self]) (by simp only [joinV]; omega) (fun k hk => by rw [join_bit ha ha hk, Bool.or_self])
theorem join_zero {a : Lab} (ha : Ok a) : joinL a zeroL = a := by
  rw [joinL_of ha zero_ok]
  refine ok_ext (joinV_ok ha zero_ok) ha ?_ (fun z => by rw [join_mem ha zero_ok]; simp [zeroL]) ?_ (fun k hk => by rw [join_bit ha zero_ok hk]; simp [zeroL, bitB])
  · have := ha.1; simp only [joinV, zeroL]; omega
  · have := ha.2.2.2.1; simp only [joinV, zeroL]; omega
theorem zero_join {a : Lab} (ha : Ok a) : joinL zeroL a = a := by rw [join_comm, join_zero ha]
theorem le_refl_ {a : Lab} : leB a a = true := by rw [leB_iff]; exact ⟨Int.le_refl _, fun _ h => h, Int.le_refl _, fun _ _ h => h⟩
theorem le_trans_ {a b c : Lab} (h : leB a b = true) (k : leB b c = true) : leB a c = true := by
  rw [leB_iff] at *
  exact ⟨Int.le_trans h.1 k.1, fun z hz => k.2.1 z (h.2.1 z hz), Int.le_trans h.2.2.1 k.2.2.1, fun c hc hb => k.2.2.2 c hc (h.2.2.2 c hc hb)⟩
theorem le_anti {a b : Lab} (ha : Ok a) (hb : Ok b) (h : leB a b = true) (k : leB b a = true) : a = b := by
  rw [leB_iff] at *
  refine ok_ext ha hb (by omega) (fun z => ⟨h.2.1 z, k.2.1 z⟩) (by omega) (fun c hc => ?_)
  have h1 := h.2.2.2 c hc
  have h2 := k.2.2.2 c hc
  cases e1 : bitB a.d c <;> cases e2 : bitB b.d c <;> simp_all
theorem le_lub {a b c : Lab} (ha : Ok a) (hb : Ok b) : leB (joinL a b) c = (leB a c && leB b c) := by
  rw [joinL_of ha hb, Bool.eq_iff_iff, Bool.and_eq_true, leB_iff, leB_iff, leB_iff]
  constructor
  · rintro ⟨h1, h2, h3, h4⟩
    simp only [joinV] at h1 h3
    refine ⟨⟨by omega, fun z hz => h2 z ((join_mem ha hb z).2 (.inl hz)), by omega, fun k hk e => h4 k hk (by rw [join_bit ha hb hk, e]; rfl)⟩, by omega, fun z hz => h2 z ((join_mem ha hb z).2 (.inr hz)), by omega, fun k hk e => h4 k hk (by rw [join_bit ha hb hk, e]; simp)⟩
  · rintro ⟨⟨h1, h2, h3, h4⟩, g1, g2, g3, g4⟩
    refine ⟨by simp only [joinV]; omega, fun z hz => ?_, by simp only [joinV]; omega, fun k hk e => ?_⟩
    · rcases (join_mem ha hb z).1 hz with e | e
      · exact h2 z e
      · exact g2 z e
    · rw [join_bit ha hb hk, Bool.or_eq_true] at e
      rcases e with e | e
      · exact h4 k hk e
      · exact g4 k hk e
theorem le_join {a b : Lab} (ha : Ok a) (hb : Ok b) : leB a (joinL a b) = true ∧ leB b (joinL a b) = true := by
  have h := le_lub (c := joinL a b) ha hb
  rw [le_refl_] at h
  simpa using h.symm
theorem le_iff_join {a b : Lab} (ha : Ok a) (hb : Ok b) : leB a b = sameB (joinL a b) b := by
  rw [Bool.eq_iff_iff, sameB_iff]
  constructor
  · intro h
    refine le_anti (joinL_ok a b) hb ?_ (le_join ha hb).2
    rw [le_lub ha hb, h, le_refl_]; rfl
  · intro h
    have := (le_join ha hb).1
    rw [h] at this
    exact this
theorem allB_iff (l : Lab) (cls now : Int) (out : List Int) (n : Int) : allB l cls now out n = true ↔ Ok l ∧ (0 ≤ cls ∧ cls ≤ 3) ∧ bitB l.d cls.toNat = false ∧ l.u ≤ now ∧ l.ap ≤ n ∧ ∀ z ∈ l.af, z ∈ out := by
  simp only [allB, Bool.and_eq_true, validB_iff, decide_eq_true_eq, Bool.not_eq_true', List.all_eq_true, List.contains_iff_mem]
theorem all_mono {a b : Lab} {cls now now' : Int} {out out' : List Int} {n n' : Int} (ha : Ok a) (h : leB a b = true) (k : allB b cls now out n = true) (hn : now ≤ now') (ho : ∀ z, z ∈ out → z ∈ out') (hk : n ≤ n') : allB a cls now' out' n' = true := by
  rw [allB_iff] at *
  rw [leB_iff] at h
  obtain ⟨_, h2, h3, h4, h5, h6⟩ := k
  refine ⟨ha, h2, ?_, by omega, by omega, fun z hz => ho z (h6 z (h.2.1 z hz))⟩
  have := h.2.2.2 cls.toNat (by omega)
  cases e : bitB a.d cls.toNat
  · rfl
  · rw [this e] at h3; cases h3
theorem all_join {a b : Lab} (ha : Ok a) (hb : Ok b) (cls now : Int) (out : List Int) (n : Int) : allB (joinL a b) cls now out n = (allB a cls now out n && allB b cls now out n) := by
  rw [Bool.eq_iff_iff, Bool.and_eq_true]
  constructor
  · intro h
    exact ⟨all_mono ha (le_join ha hb).1 h (Int.le_refl _) (fun _ h => h) (Int.le_refl _), all_mono hb (le_join ha hb).2 h (Int.le_refl _) (fun _ h => h) (Int.le_refl _)⟩
  · rw [allB_iff, allB_iff, allB_iff, joinL_of ha hb]
    rintro ⟨⟨_, h2, h3, h4, h5, h6⟩, _, _, g3, g4, g5, g6⟩
    refine ⟨joinV_ok ha hb, h2, by rw [join_bit ha hb (by omega), h3, g3]; rfl, by simp only [joinV]; omega, by simp only [joinV]; omega, fun z hz => ?_⟩
    rcases (join_mem ha hb z).1 hz with e | e
    · exact h6 z e
    · exact g6 z e
end Go.Proofs.YtlhcckjfgpcohaaGreatDoor
