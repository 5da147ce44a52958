/- Blocks as plain data: valid, the same, encoded, decoded; the laws of encoding. -/
import Derived.Test.YtlhcckjfgpcohaaGreatDoorWireP2
import Derived.Test.YtlhcckjfgpcohaaGreatDoorBlkP0
namespace Go.Proofs.YtlhcckjfgpcohaaGreatDoor
def encS (t : List UInt8) : List UInt8 := encInt (t.length : Int) ++ t
def encN (zs : List Int) : List UInt8 := encInt (zs.length : Int) ++ zs.flatMap encInt
def encB (b : Blk) : List UInt8 := encInt b.id ++ (encInt b.kd ++ (encS b.tx ++ (encInt b.st ++ (encInt b.rf ++ (encInt b.lb.u ++ (encN b.lb.af ++ (encInt b.lb.ap ++ encInt b.lb.d)))))))
def encL (l : List Blk) : List UInt8 := encInt (l.length : Int) ++ l.flatMap encB

/- Reading: the offset and the error. -/
def rdI (s : List UInt8) (σ : Int × Int) : Int × (Int × Int) := if σ.2 = 0 then intAt s σ.1 else (0, σ)
def rdS (s : List UInt8) (σ : Int × Int) : List UInt8 × (Int × Int) := if σ.2 = 0 then strAt s σ.1 else ([], σ)
def rdN {α : Type} (f : Int × Int → α × (Int × Int)) : Nat → Int × Int → List α × (Int × Int)
  | 0, σ => ([], σ)
  | n + 1, σ => ((f σ).1 :: (rdN f n (f σ).2).1, (rdN f n (f σ).2).2)
def rdL {α : Type} (s : List UInt8) (most : Int) (f : Int × Int → α × (Int × Int)) (σ : Int × Int) : List α × (Int × Int) :=
  if inB (rdI s σ).1 0 most = true then rdN f (rdI s σ).1.toNat (rdI s σ).2 else ([], ((rdI s σ).2.1, 30))
def rdB (s : List UInt8) (σ : Int × Int) : Blk × (Int × Int) :=
  let a := rdI s σ
  let b := rdI s a.2
  let t := rdS s b.2
  let c := rdI s t.2
  let d := rdI s c.2
  let u := rdI s d.2
  let l := rdL s 64 (rdI s) u.2
  let p := rdI s l.2
  let q := rdI s p.2
  (⟨a.1, b.1, t.1, c.1, d.1, ⟨u.1, l.1, p.1, q.1⟩⟩, q.2)
def decP (s : List UInt8) : List Blk × Int :=
  let l := rdL s 24 (rdB s) (0, 0)
  if l.2.2 ≠ 0 then ([], l.2.2) else if l.2.1 < s.length then ([], 10) else if vL l.1 = false then ([], 30) else (l.1, 0)

theorem rdN_snoc {α : Type} (f : Int × Int → α × (Int × Int)) : ∀ (n : Nat) (σ : Int × Int), rdN f (n + 1) σ = ((rdN f n σ).1 ++ [(f (rdN f n σ).2).1], (f (rdN f n σ).2).2)
  | 0, σ => rfl
  | n + 1, σ => by
    have h := rdN_snoc f n (f σ).2
    rw [rdN, h]
    rfl
theorem rdN_len {α : Type} (f : Int × Int → α × (Int × Int)) : ∀ (n : Nat) (σ : Int × Int), (rdN f n σ).1.length = n
  | 0, σ => rfl
  | n + 1, σ => by rw [rdN, List.length_cons, rdN_len f n]

def Eats (s : List UInt8) (k k' : Nat) (e : List UInt8) : Prop := k ≤ k' ∧ k' ≤ s.length ∧ (s.drop k).take (k' - k) = e
theorem Eats.nil {s : List UInt8} {k : Nat} (h : k ≤ s.length) : Eats s k k [] := ⟨Nat.le_refl _, h, by simp⟩
theorem Eats.app {s : List UInt8} {k k' k'' : Nat} {e e' : List UInt8} (h : Eats s k k' e) (h' : Eats s k' k'' e') : Eats s k k'' (e ++ e') := by
  obtain ⟨a, b, c⟩ := h
  obtain ⟨a', b', c'⟩ := h'
  refine ⟨by omega, b', ?_⟩
  rw [show k'' - k = (k' - k) + (k'' - k') by omega, List.take_add, c, List.drop_drop, show k + (k' - k) = k' by omega, c']
/-- A reader: it waits once there is an error; it reads back what was written; what it reads was written so; more text behind changes nothing. -/
structure Rdr {α : Type} (f : List UInt8 → Int × Int → α × (Int × Int)) (enc : α → List UInt8) (ok : α → Prop) : Prop where
  err : ∀ s s' σ, σ.2 ≠ 0 → f s σ = f s' σ ∧ (f s σ).2 = σ
  fwd : ∀ p q x, ok x → f (p ++ (enc x ++ q)) ((p.length : Int), 0) = (x, (((p ++ enc x).length : Int), 0))
  back : ∀ (s : List UInt8) (k : Nat), k ≤ s.length → (f s (k, 0)).2.2 = 0 → ∃ k' : Nat, (f s (k, 0)).2.1 = k' ∧ Eats s k k' (enc (f s (k, 0)).1) ∧ ok (f s (k, 0)).1
  ext : ∀ (s r : List UInt8) (k : Nat), k ≤ s.length → (f s (k, 0)).2.2 ≠ 10 → f (s ++ r) (k, 0) = f s (k, 0)
theorem dcd_more (l r : List UInt8) (h : (dcd l).2 ≠ 0) : dcd (l ++ r) = dcd l := dcd_append l r h
theorem intAt_ext (s r : List UInt8) (k : Nat) (hk : k ≤ s.length) (h : (intAt s k).2.2 ≠ 10) : intAt (s ++ r) k = intAt s k := by
  unfold intAt at h ⊢
  have e1 : ¬ ((k : Int) < 0 ∨ ((s ++ r).length : Int) < k) := by simp; omega
  have e2 : ¬ ((k : Int) < 0 ∨ (s.length : Int) < k) := by omega
  rw [if_neg e2] at h
  rw [if_neg e1, if_neg e2]
  by_cases g : good (s.drop (k : Int).toNat) = true
  · have hd : (dcd (s.drop k)).2 ≠ 0 := by
      have : good (s.drop k) = true := g
      simp only [good, Bool.and_eq_true, bne_iff_ne] at this
      exact this.1
    have e : (s ++ r).drop (k : Int).toNat = s.drop k ++ r := by simp [List.drop_append_of_le_length hk]
    have e2 : s.drop (k : Int).toNat = s.drop k := rfl
    have hg : good (s.drop k ++ r) = good (s.drop k) := by unfold good; rw [dcd_more _ _ hd]
    rw [e, e2, hg, dcd_more _ _ hd]
  · rw [if_neg g] at h
    simp at h
theorem strAt_ext (s r : List UInt8) (k : Nat) (hk : k ≤ s.length) (h : (strAt s k).2.2 ≠ 10) : strAt (s ++ r) k = strAt s k := by
  have hi : (intAt s k).2.2 ≠ 10 := by
    intro e
    apply h
    unfold strAt
    simp only
    rw [e]
    rfl
  have hx := intAt_ext s r k hk hi
  have hok := intAt_ok s k
  unfold strAt at h ⊢
  simp only at h ⊢
  rw [hx]
  by_cases h0 : (intAt s k).2.2 = 0
  · obtain ⟨_, _, _, h4, h5⟩ := hok h0
    rw [if_pos h0] at h ⊢
    generalize intAt s k = x at *
    obtain ⟨n, a, e⟩ := x
    simp only at *
    by_cases hn : n < 0 ∨ 65536 < n ∨ (s.length : Int) - a < n
    · rw [if_pos hn] at h; simp at h
    · rw [if_neg hn, if_neg (by simp; omega), List.drop_append_of_le_length (by omega), List.take_append_of_le_length (by simp; omega)]
      rw [if_pos h0]
  · rw [if_neg h0, if_neg h0]
theorem rdI_ok : Rdr rdI encInt (fun n => okInt n = true) where
  err s s' σ h := by unfold rdI; rw [if_neg h, if_neg h]; exact ⟨rfl, rfl⟩
  fwd p q x h := by
    unfold rdI
    rw [if_pos rfl, int_round x h p q]
    simp
  back s k hk h := by
    unfold rdI at h ⊢
    rw [if_pos rfl] at h ⊢
    obtain ⟨h1, m, h2, h3, h4⟩ := unique_int s k h
    exact ⟨k + m, h2, ⟨by omega, h3, by rw [Nat.add_sub_cancel_left]; exact h4⟩, h1⟩
  ext s r k hk h := by
    unfold rdI at h ⊢
    rw [if_pos rfl] at h ⊢
    rw [if_pos rfl]
    exact intAt_ext s r k hk h
theorem rdS_ok : Rdr rdS encS (fun t => t.length ≤ 65536) where
  err s s' σ h := by unfold rdS; rw [if_neg h, if_neg h]; exact ⟨rfl, rfl⟩
  fwd p q x h := by
    unfold rdS encS
    rw [if_pos rfl, str_round x p q h]
    simp
  back s k hk h := by
    unfold rdS at h ⊢
    rw [if_pos rfl] at h ⊢
    obtain ⟨h1, m, h2, h3, h4⟩ := unique_str s k h
    exact ⟨k + m, h2, ⟨by omega, h3, by rw [Nat.add_sub_cancel_left]; exact h4⟩, h1⟩
  ext s r k hk h := by
    unfold rdS at h ⊢
    rw [if_pos rfl] at h ⊢
    rw [if_pos rfl]
    exact strAt_ext s r k hk h
section
variable {α β : Type} {f : List UInt8 → Int × Int → α × (Int × Int)} {g : List UInt8 → Int × Int → β × (Int × Int)} {ef : α → List UInt8} {eg : β → List UInt8} {of : α → Prop} {og : β → Prop}
def rdSeq (f : List UInt8 → Int × Int → α × (Int × Int)) (g : List UInt8 → Int × Int → β × (Int × Int)) (s : List UInt8) (σ : Int × Int) : (α × β) × (Int × Int) := (((f s σ).1, (g s (f s σ).2).1), (g s (f s σ).2).2)
theorem pair_eq {σ : Int × Int} {k : Nat} {e : Int} (h1 : σ.1 = k) (h2 : σ.2 = e) : σ = ((k : Int), e) := by cases σ; simp_all
theorem Rdr.seq (hf : Rdr f ef of) (hg : Rdr g eg og) : Rdr (rdSeq f g) (fun x => ef x.1 ++ eg x.2) (fun x => of x.1 ∧ og x.2) where
  err s s' σ h := by
    obtain ⟨h1, h2⟩ := hf.err s s' σ h
    obtain ⟨h3, h4⟩ := hg.err s s' σ h
    unfold rdSeq
    rw [← h1, h2, ← h3, h4]
    exact ⟨rfl, rfl⟩
  fwd p q x h := by
    unfold rdSeq
    have h1 := hf.fwd p (eg x.2 ++ q) x.1 h.1
    have h2 := hg.fwd (p ++ ef x.1) q x.2 h.2
    rw [List.append_assoc] at h2
    rw [List.append_assoc (ef x.1), h1, h2]
    simp
  back s k hk h := by
    unfold rdSeq at h ⊢
    simp only at h ⊢
    have h0 : (f s (k, 0)).2.2 = 0 := by
      by_cases e : (f s (k, 0)).2.2 = 0
      · exact e
      · rw [(hg.err s s _ e).2] at h; exact h
    obtain ⟨k1, a1, a2, a3⟩ := hf.back s k hk h0
    rw [pair_eq a1 h0] at h ⊢
    obtain ⟨k2, b1, b2, b3⟩ := hg.back s k1 a2.2.1 h
    exact ⟨k2, b1, a2.app b2, a3, b3⟩
  ext s r k hk h := by
    unfold rdSeq at h ⊢
    simp only at h
    by_cases e : (f s (k, 0)).2.2 = 0
    · obtain ⟨k1, a1, a2, _⟩ := hf.back s k hk e
      have h1 := hf.ext s r k hk (by rw [e]; decide)
      rw [h1]
      rw [pair_eq a1 e] at h ⊢
      rw [hg.ext s r k1 a2.2.1 h]
    · obtain ⟨h3, h4⟩ := hg.err s (s ++ r) _ e
      rw [h4] at h
      rw [hf.ext s r k hk h, h3]
theorem Rdr.map (hf : Rdr f ef of) (m : α → β) (n : β → α) (h1 : ∀ x, n (m x) = x) (h2 : ∀ y, m (n y) = y) : Rdr (fun s σ => (m (f s σ).1, (f s σ).2)) (fun y => ef (n y)) (fun y => of (n y)) where
  err s s' σ h := by
    obtain ⟨h1, h2⟩ := hf.err s s' σ h
    exact ⟨by rw [h1], h2⟩
  fwd p q x h := by
    have := hf.fwd p q (n x) h
    simp only [this, h2]
  back s k hk h := by
    obtain ⟨k', a, b, c⟩ := hf.back s k hk h
    exact ⟨k', a, by rw [h1]; exact b, by rw [h1]; exact c⟩
  ext s r k hk h := by rw [hf.ext s r k hk h]
theorem rdN_err (hf : Rdr f ef of) (s s' : List UInt8) : ∀ (n : Nat) (σ : Int × Int), σ.2 ≠ 0 → rdN (f s) n σ = rdN (f s') n σ ∧ (rdN (f s) n σ).2 = σ
  | 0, σ, _ => ⟨rfl, rfl⟩
  | n + 1, σ, h => by
    obtain ⟨h1, h2⟩ := hf.err s s' σ h
    obtain ⟨h3, h4⟩ := rdN_err hf s s' n σ h
    have h5 : (rdN (f s') n σ).2 = σ := by rw [← h3]; exact h4
    rw [rdN, rdN, ← h1, h2, h4, h3, h5]
    exact ⟨rfl, rfl⟩
theorem rdN_fwd (hf : Rdr f ef of) : ∀ (l : List α) (p q : List UInt8), (∀ x ∈ l, of x) → rdN (f (p ++ (l.flatMap ef ++ q))) l.length ((p.length : Int), 0) = (l, (((p ++ l.flatMap ef).length : Int), 0))
  | [], p, q, _ => by simp [rdN]
  | x :: l, p, q, h => by
    have h1 := hf.fwd p (l.flatMap ef ++ q) x (h x List.mem_cons_self)
    have h2 := rdN_fwd hf l (p ++ ef x) q (fun y hy => h y (List.mem_cons_of_mem _ hy))
    rw [List.append_assoc] at h2
    rw [List.flatMap_cons, List.append_assoc, List.length_cons, rdN, h1]
    simp only [h2]
    simp
theorem rdN_back (hf : Rdr f ef of) (s : List UInt8) : ∀ (n : Nat) (k : Nat), k ≤ s.length → (rdN (f s) n (k, 0)).2.2 = 0 → ∃ k' : Nat, (rdN (f s) n (k, 0)).2.1 = k' ∧ Eats s k k' ((rdN (f s) n (k, 0)).1.flatMap ef) ∧ ∀ x ∈ (rdN (f s) n (k, 0)).1, of x
  | 0, k, hk, _ => ⟨k, rfl, Eats.nil hk, by simp [rdN]⟩
  | n + 1, k, hk, h => by
    rw [rdN] at h ⊢
    simp only at h ⊢
    have h0 : (f s (k, 0)).2.2 = 0 := by
      by_cases e : (f s (k, 0)).2.2 = 0
      · exact e
      · rw [(rdN_err hf s s n _ e).2] at h; exact h
    obtain ⟨k1, a1, a2, a3⟩ := hf.back s k hk h0
    rw [pair_eq a1 h0] at h ⊢
    obtain ⟨k2, b1, b2, b3⟩ := rdN_back hf s n k1 a2.2.1 h
    refine ⟨k2, b1, by rw [List.flatMap_cons]; exact a2.app b2, ?_⟩
    intro x hx
    rcases List.mem_cons.1 hx with rfl | hx
    · exact a3
    · exact b3 x hx
theorem rdN_ext (hf : Rdr f ef of) (s r : List UInt8) : ∀ (n : Nat) (k : Nat), k ≤ s.length → (rdN (f s) n (k, 0)).2.2 ≠ 10 → rdN (f (s ++ r)) n (k, 0) = rdN (f s) n (k, 0)
  | 0, k, _, _ => rfl
  | n + 1, k, hk, h => by
    rw [rdN] at h
    simp only at h
    rw [rdN, rdN]
    by_cases e : (f s (k, 0)).2.2 = 0
    · obtain ⟨k1, a1, a2, _⟩ := hf.back s k hk e
      rw [hf.ext s r k hk (by rw [e]; decide)]
      rw [pair_eq a1 e] at h ⊢
      rw [rdN_ext hf s r n k1 a2.2.1 h]
    · obtain ⟨h3, h4⟩ := rdN_err hf s (s ++ r) n _ e
      rw [h4] at h
      rw [hf.ext s r k hk h, h3]
def encM (ef : α → List UInt8) (l : List α) : List UInt8 := encInt (l.length : Int) ++ l.flatMap ef
theorem Rdr.many (hf : Rdr f ef of) (most : Int) (hm : 0 ≤ most ∧ most ≤ 1000) : Rdr (fun s => rdL s most (f s)) (encM ef) (fun l => (l.length : Int) ≤ most ∧ ∀ x ∈ l, of x) where
  err s s' σ h := by
    obtain ⟨h1, h2⟩ := rdI_ok.err s s' σ h
    have h0 : (rdI s σ).1 = 0 := by unfold rdI; rw [if_neg h]
    have h0' : (rdI s' σ).1 = 0 := by rw [← h1]; exact h0
    have h2' : (rdI s' σ).2 = σ := by rw [← h1]; exact h2
    unfold rdL
    rw [h0, h0', h2, h2']
    by_cases g : inB 0 0 most = true
    · rw [if_pos g, if_pos g]; exact ⟨rfl, rfl⟩
    · exact absurd (by simp [inB]; omega) g
  fwd p q l h := by
    have h1 := rdI_ok.fwd p (l.flatMap ef ++ q) (l.length : Int) (by rw [okInt_iff]; omega)
    have h2 := rdN_fwd hf l (p ++ encInt (l.length : Int)) q h.2
    rw [List.append_assoc] at h2
    unfold rdL encM
    rw [List.append_assoc (encInt _), h1]
    simp only
    rw [if_pos (by simp [inB]; omega), Int.toNat_natCast, h2]
    simp
  back s k hk h := by
    unfold rdL at h ⊢
    by_cases g : inB (rdI s (k, 0)).1 0 most = true
    · rw [if_pos g] at h ⊢
      have h0 : (rdI s (k, 0)).2.2 = 0 := by
        by_cases e : (rdI s (k, 0)).2.2 = 0
        · exact e
        · rw [(rdN_err hf s s _ _ e).2] at h; exact h
      obtain ⟨k1, a1, a2, a3⟩ := rdI_ok.back s k hk h0
      rw [pair_eq a1 h0] at h ⊢
      obtain ⟨k2, b1, b2, b3⟩ := rdN_back hf s _ k1 a2.2.1 h
      have hl := rdN_len (f s) (rdI s (k, 0)).1.toNat ((k1 : Int), 0)
      simp only [inB, decide_eq_true_eq] at g
      refine ⟨k2, b1, ?_, ?_, b3⟩
      · unfold encM
        rw [hl, Int.toNat_of_nonneg g.1]
        exact a2.app b2
      · rw [hl]; omega
    · rw [if_neg g] at h
      simp at h
  ext s r k hk h := by
    unfold rdL at h ⊢
    by_cases e : (rdI s (k, 0)).2.2 = 0
    · obtain ⟨k1, a1, a2, _⟩ := rdI_ok.back s k hk e
      rw [rdI_ok.ext s r k hk (by rw [e]; decide)]
      by_cases g : inB (rdI s (k, 0)).1 0 most = true
      · rw [if_pos g] at h ⊢
        rw [if_pos g]
        rw [pair_eq a1 e] at h ⊢
        rw [rdN_ext hf s r _ k1 a2.2.1 h]
      · rw [if_neg g, if_neg g]
    · have hr := refused_int s k hk (by unfold rdI at e; rw [if_pos rfl] at e; exact e)
      have hi : rdI s ((k : Int), 0) = (0, 0, 10) := by unfold rdI; rw [if_pos rfl]; exact hr
      rw [hi] at h
      rw [if_pos (by simp [inB]; omega)] at h
      simp [rdN] at h
end
/-- Nine fields as nested pairs. -/
abbrev Nest : Type := Int × (Int × (List UInt8 × (Int × (Int × (Int × (List Int × (Int × Int)))))))
def toB (x : Nest) : Blk := ⟨x.1, x.2.1, x.2.2.1, x.2.2.2.1, x.2.2.2.2.1, ⟨x.2.2.2.2.2.1, x.2.2.2.2.2.2.1, x.2.2.2.2.2.2.2.1, x.2.2.2.2.2.2.2.2⟩⟩
def ofB (b : Blk) : Nest := (b.id, b.kd, b.tx, b.st, b.rf, b.lb.u, b.lb.af, b.lb.ap, b.lb.d)
def okB (b : Blk) : Prop := okInt b.id = true ∧ (okInt b.kd = true ∧ (b.tx.length ≤ 65536 ∧ (okInt b.st = true ∧ (okInt b.rf = true ∧ (okInt b.lb.u = true ∧ (((b.lb.af.length : Int) ≤ 64 ∧ ∀ x ∈ b.lb.af, okInt x = true) ∧ (okInt b.lb.ap = true ∧ okInt b.lb.d = true)))))))
theorem rdB_ok : Rdr rdB encB okB :=
  (rdI_ok.seq (rdI_ok.seq (rdS_ok.seq (rdI_ok.seq (rdI_ok.seq (rdI_ok.seq ((rdI_ok.many 64 (by decide)).seq (rdI_ok.seq rdI_ok)))))))).map toB ofB (fun _ => rfl) (fun _ => rfl)
theorem rdBs_ok : Rdr (fun s => rdL s 24 (rdB s)) encL (fun l => (l.length : Int) ≤ 24 ∧ ∀ b ∈ l, okB b) := rdB_ok.many 24 (by decide)

theorem asc_len : ∀ (zs : List Int) (lo : Int), zs.Pairwise (· < ·) → (∀ z ∈ zs, lo < z ∧ z ≤ 64) → (zs.length : Int) ≤ max 0 (64 - lo)
  | [], lo, _, _ => by simp; omega
  | z :: zs, lo, h, hb => by
    rw [List.pairwise_cons] at h
    have h1 := hb z List.mem_cons_self
    have h2 := asc_len zs z h.2 (fun y hy => ⟨h.1 y hy, (hb y (List.mem_cons_of_mem _ hy)).2⟩)
    simp only [List.length_cons]
    omega
theorem vB_ok {b : Blk} (h : vB b = true) : okB b := by
  simp only [vB, Bool.and_eq_true, inB, decide_eq_true_eq] at h
  obtain ⟨hk, hi, ht, hs, hl⟩ := h
  obtain ⟨hu, ha, hp, hap, hd⟩ := (validB_iff _).1 hl
  have htx : b.tx.length ≤ 300 := by
    unfold kindT at ht
    split at ht
    · simp [textB] at ht; exact ht.1
    · split at ht
      · simp [nameB, inB] at ht; omega
      · simp [fillB, textB] at ht; exact ht.2.1
  have hsr : (0 ≤ b.st ∧ b.st ≤ 64) ∧ (0 ≤ b.rf ∧ b.rf ≤ 1000) := by
    unfold kindS at hs
    split at hs
    · simp [srcB, inB] at hs; omega
    · simp [noSrc] at hs; omega
  have hl64 := asc_len b.lb.af 0 hp (fun z hz => by have := ha z hz; omega)
  unfold okB
  simp only [okInt_iff]
  refine ⟨by omega, by omega, by omega, by omega, by omega, by omega, ⟨by omega, fun z hz => by have := ha z hz; omega⟩, by omega, by omega⟩
theorem vL_ok {l : List Blk} (h : vL l = true) : (l.length : Int) ≤ 24 ∧ ∀ b ∈ l, okB b := by
  simp only [vL, Bool.and_eq_true, decide_eq_true_eq, List.all_eq_true] at h
  exact ⟨by omega, fun b hb => vB_ok (h.2.1 b hb)⟩
/-- Reading what was written. -/
theorem dec_enc {l : List Blk} (h : vL l = true) : decP (encL l) = (l, 0) := by
  have h1 := rdBs_ok.fwd [] [] l (vL_ok h)
  simp only [List.nil_append, List.append_nil, List.length_nil] at h1
  unfold decP
  have h2 : rdL (encL l) 24 (rdB (encL l)) (0, 0) = (l, (((encL l).length : Int), 0)) := h1
  simp only [h2]
  rw [if_neg (by simp), if_neg (by omega), if_neg (by simp [h])]
theorem enc_inj_list {l m : List Blk} (hl : vL l = true) (hm : vL m = true) (h : encL l = encL m) : l = m := by
  have h1 := dec_enc hl
  rw [h, dec_enc hm] at h1
  exact (congrArg Prod.fst h1).symm
/-- Writing what was read. -/
theorem enc_dec {s : List UInt8} (h : (decP s).2 = 0) : vL (decP s).1 = true ∧ encL (decP s).1 = s := by
  unfold decP at h ⊢
  simp only at h ⊢
  by_cases h0 : (rdL s 24 (rdB s) (0, 0)).2.2 = 0
  · rw [if_neg (by simp [h0])] at h ⊢
    by_cases h1 : (rdL s 24 (rdB s) (0, 0)).2.1 < s.length
    · rw [if_pos h1] at h; simp at h
    · rw [if_neg h1] at h ⊢
      cases h2 : vL (rdL s 24 (rdB s) (0, 0)).1
      · rw [if_pos h2] at h; simp at h
      · rw [if_neg (by simp)]
        refine ⟨h2, ?_⟩
        obtain ⟨k', a, ⟨b1, b2, b3⟩, _⟩ := rdBs_ok.back s 0 (by omega) h0
        have hk : k' = s.length := by
          have : (rdL s 24 (rdB s) (0, 0)).2.1 = k' := a
          omega
        rw [hk] at b3
        simp only [List.drop_zero, Nat.sub_zero, List.take_length] at b3
        exact b3.symm
  · rw [if_pos h0] at h
    exact absurd h h0
theorem decP_err (s : List UInt8) (h : (decP s).2 ≠ 0) : (decP s).1 = [] := by
  unfold decP at h ⊢
  simp only at h ⊢
  split
  · rfl
  · split
    · rfl
    · split
      · rfl
      · rename_i h1 h2 h3
        rw [if_neg h1, if_neg h2, if_neg h3] at h
        exact absurd rfl h
theorem dec_prefix {l : List Blk} (h : vL l = true) (k : Nat) (hk : k < (encL l).length) : (decP ((encL l).take k)).2 = 10 := by
  have h1 := rdBs_ok.fwd [] [] l (vL_ok h)
  simp only [List.nil_append, List.append_nil, List.length_nil] at h1
  have h2 : rdL (encL l) 24 (rdB (encL l)) (0, 0) = (l, (((encL l).length : Int), 0)) := h1
  by_cases e : (rdL ((encL l).take k) 24 (rdB ((encL l).take k)) (0, 0)).2.2 = 10
  · unfold decP
    simp only
    rw [if_pos (by rw [e]; decide), e]
  · exfalso
    have h3 := rdBs_ok.ext ((encL l).take k) ((encL l).drop k) 0 (by omega) e
    rw [List.take_append_drop] at h3
    have h4 : rdL (encL l) 24 (rdB (encL l)) (0, 0) = rdL ((encL l).take k) 24 (rdB ((encL l).take k)) (0, 0) := h3
    rw [h2] at h4
    have h5 : (rdL ((encL l).take k) 24 (rdB ((encL l).take k)) (0, 0)).2.2 = 0 := by rw [← h4]
    obtain ⟨k', a, ⟨b1, b2, b3⟩, _⟩ := rdBs_ok.back ((encL l).take k) 0 (by omega) h5
    have a' : (rdL ((encL l).take k) 24 (rdB ((encL l).take k)) (0, 0)).2.1 = k' := a
    rw [← h4] at a'
    simp only [List.length_take] at b2
    simp only at a'
    omega
theorem dec_more {l : List Blk} (h : vL l = true) (m : List UInt8) (hm : m ≠ []) : (decP (encL l ++ m)).2 = 10 := by
  have h1 := rdBs_ok.fwd [] m l (vL_ok h)
  simp only [List.nil_append, List.length_nil] at h1
  have h2 : rdL (encL l ++ m) 24 (rdB (encL l ++ m)) (0, 0) = (l, (((encL l).length : Int), 0)) := h1
  unfold decP
  simp only [h2]
  have := List.length_pos_iff.2 hm
  rw [if_neg (by simp), if_pos (by simp; omega)]
end Go.Proofs.YtlhcckjfgpcohaaGreatDoor
