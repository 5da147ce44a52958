/- Facts as plain data: reading what was written, writing what was read, prefixes, redaction, spoiled fields. -/
import Derived.Test.YtlhcckjfgpcohaaGreatDoorFactP
namespace Go.Proofs.YtlhcckjfgpcohaaGreatDoor
set_option linter.unusedSimpArgs false
set_option linter.unusedVariables false
theorem own_cases {k : Int} {l : List Fld} (h : ownF k = some l) :
    (k = 1 ∧ l = [.st, .lg, .rv, .bs, .ti, .au, .tp, .bl, .lb]) ∨ (k = 2 ∧ l = [.st, .ed]) ∨ (k = 3 ∧ l = [.st, .lb]) ∨ (k = 4 ∧ l = [.st, .lg, .bk, .se, .tx]) ∨ (k = 5 ∧ l = [.st, .tx]) ∨
    (k = 6 ∧ l = [.st]) ∨ (k = 7 ∧ l = [.nm, .sx]) ∨ (k = 8 ∧ l = [.pt, .cl, .un]) ∨ (k = 9 ∧ l = [.pt, .un]) ∨ (k = 10 ∧ l = [.st]) := by
  unfold ownF at h
  by_cases h1 : k = 1
  · rw [if_pos h1] at h; exact .inl ⟨h1, (Option.some.inj h).symm⟩
  rw [if_neg h1] at h
  by_cases h2 : k = 2
  · rw [if_pos h2] at h; exact .inr (.inl ⟨h2, (Option.some.inj h).symm⟩)
  rw [if_neg h2] at h
  by_cases h3 : k = 3
  · rw [if_pos h3] at h; exact .inr (.inr (.inl ⟨h3, (Option.some.inj h).symm⟩))
  rw [if_neg h3] at h
  by_cases h4 : k = 4
  · rw [if_pos h4] at h; exact .inr (.inr (.inr (.inl ⟨h4, (Option.some.inj h).symm⟩)))
  rw [if_neg h4] at h
  by_cases h5 : k = 5
  · rw [if_pos h5] at h; exact .inr (.inr (.inr (.inr (.inl ⟨h5, (Option.some.inj h).symm⟩))))
  rw [if_neg h5] at h
  by_cases h6 : k = 6
  · rw [if_pos h6] at h; exact .inr (.inr (.inr (.inr (.inr (.inl ⟨h6, (Option.some.inj h).symm⟩)))))
  rw [if_neg h6] at h
  by_cases h7 : k = 7
  · rw [if_pos h7] at h; exact .inr (.inr (.inr (.inr (.inr (.inr (.inl ⟨h7, (Option.some.inj h).symm⟩))))))
  rw [if_neg h7] at h
  by_cases h8 : k = 8
  · rw [if_pos h8] at h; exact .inr (.inr (.inr (.inr (.inr (.inr (.inr (.inl ⟨h8, (Option.some.inj h).symm⟩)))))))
  rw [if_neg h8] at h
  by_cases h9 : k = 9
  · rw [if_pos h9] at h; exact .inr (.inr (.inr (.inr (.inr (.inr (.inr (.inr (.inl ⟨h9, (Option.some.inj h).symm⟩))))))))
  rw [if_neg h9] at h
  by_cases h10 : k = 10
  · rw [if_pos h10] at h; exact .inr (.inr (.inr (.inr (.inr (.inr (.inr (.inr (.inr ⟨h10, (Option.some.inj h).symm⟩))))))))
  rw [if_neg h10] at h
  cases h
theorem own_some {k : Int} (h : 1 ≤ k ∧ k ≤ 10) : ∃ l, ownF k = some l := by
  have : k = 1 ∨ k = 2 ∨ k = 3 ∨ k = 4 ∨ k = 5 ∨ k = 6 ∨ k = 7 ∨ k = 8 ∨ k = 9 ∨ k = 10 := by omega
  rcases this with rfl | rfl | rfl | rfl | rfl | rfl | rfl | rfl | rfl | rfl <;> exact ⟨_, rfl⟩
theorem own_apart {k : Int} {l : List Fld} (h : ownF k = some l) : (hdF ++ l).Pairwise (fun x y => x.slot ≠ y.slot) := by
  rcases own_cases h with ⟨_, rfl⟩ | ⟨_, rfl⟩ | ⟨_, rfl⟩ | ⟨_, rfl⟩ | ⟨_, rfl⟩ | ⟨_, rfl⟩ | ⟨_, rfl⟩ | ⟨_, rfl⟩ | ⟨_, rfl⟩ | ⟨_, rfl⟩ <;> decide
theorem vF_some {f : Fct} (h : vF f = true) : ∃ l, ownF f.kd = some l ∧ (∀ x ∈ hdF ++ l, valF x f = true) ∧ setL (hdF ++ l) zF f = zF := by
  unfold vF at h
  cases ho : ownF f.kd with
  | none => rw [ho] at h; cases h
  | some l =>
    rw [ho] at h
    simp only [Bool.and_eq_true, List.all_eq_true, sF_iff] at h
    exact ⟨l, rfl, h.1, h.2⟩
theorem vF_of {f : Fct} {l : List Fld} (ho : ownF f.kd = some l) (h1 : ∀ x ∈ hdF ++ l, valF x f = true) (h2 : setL (hdF ++ l) zF f = zF) : vF f = true := by
  unfold vF
  rw [ho]
  simp only [Bool.and_eq_true, List.all_eq_true, sF_iff]
  exact ⟨h1, h2⟩
theorem set_back {k : Int} {l : List Fld} {f : Fct} (ho : ownF k = some l) (h : setL (hdF ++ l) zF f = zF) : setL l f (setL hdF f zF) = f := by
  obtain ⟨n, tm, kd, st, lg, rv, bs, ti, au, tp, bl, lb, ed, bk, se, tx, nm, pt, cl, un⟩ := f
  rcases own_cases ho with ⟨_, rfl⟩ | ⟨_, rfl⟩ | ⟨_, rfl⟩ | ⟨_, rfl⟩ | ⟨_, rfl⟩ | ⟨_, rfl⟩ | ⟨_, rfl⟩ | ⟨_, rfl⟩ | ⟨_, rfl⟩ | ⟨_, rfl⟩ <;>
  · simp only [setL, hdF, List.cons_append, List.nil_append, List.foldl_cons, List.foldl_nil, setF, zF, Fct.mk.injEq] at h ⊢
    simp only [h, and_self]
theorem name_len {t : List UInt8} (h : nameB t = true) : t.length ≤ 20 ∧ 1 ≤ t.length := by
  simp only [nameB, inB, Bool.and_eq_true, decide_eq_true_eq] at h; omega
theorem full_len {t : List UInt8} (h : fullT t = true) : t.length ≤ 300 ∧ 1 ≤ t.length := by
  simp only [fullT, inB, Bool.and_eq_true, decide_eq_true_eq] at h; omega
theorem src_len {t : List UInt8} (h : srcT t = true) : t.length ≤ 1000 := by
  simp only [srcT, Bool.and_eq_true, decide_eq_true_eq] at h; exact h.1
theorem lab_ok {l : Lab} (h : validB l = true) : okInt l.u = true ∧ (((l.af.length : Int) ≤ 64 ∧ ∀ x ∈ l.af, okInt x = true) ∧ (okInt l.ap = true ∧ okInt l.d = true)) := by
  obtain ⟨hu, ha, hp, hap, hd⟩ := (validB_iff _).1 h
  have hl64 := asc_len l.af 0 hp (fun z hz => by have := ha z hz; omega)
  simp only [okInt_iff]
  refine ⟨by omega, ⟨by omega, fun z hz => by have := ha z hz; omega⟩, by omega, by omega⟩
theorem val_ok {x : Fld} {f : Fct} (h : valF x f = true) (hr : x = .bs → f.rv ≤ 100) : okF x f := by
  cases x <;> simp only [valF, inB, decide_eq_true_eq] at h <;> simp only [okF, okInt_iff]
  case lg => have := name_len h; omega
  case bs => have := hr rfl; omega
  case ti => have := full_len h; omega
  case au => have := name_len h; omega
  case tp =>
    simp only [topB, Bool.and_eq_true, decide_eq_true_eq, List.all_eq_true] at h
    exact ⟨by omega, fun t ht => by have := name_len (h.2.1 t ht); omega⟩
  case bl => exact h
  case lb => have := lab_ok h; simp only [okInt_iff] at this; exact this
  case tx => have := full_len h; omega
  case sx => have := src_len h; omega
  case nm => have := name_len h; omega
  all_goals omega
theorem all_ok {f : Fct} {l : List Fld} (ho : ownF f.kd = some l) (h : ∀ x ∈ hdF ++ l, valF x f = true) : ∀ x ∈ hdF ++ l, okF x f := by
  intro x hx
  refine val_ok (h x hx) (fun hb => ?_)
  subst hb
  have hrv : Fld.rv ∈ hdF ++ l := by
    rcases own_cases ho with ⟨_, rfl⟩ | ⟨_, rfl⟩ | ⟨_, rfl⟩ | ⟨_, rfl⟩ | ⟨_, rfl⟩ | ⟨_, rfl⟩ | ⟨_, rfl⟩ | ⟨_, rfl⟩ | ⟨_, rfl⟩ | ⟨_, rfl⟩ <;> simp [hdF] at hx ⊢
  have := h _ hrv
  simp only [valF, inB, decide_eq_true_eq] at this
  exact this.2
theorem encG_app (l m : List Fld) (f : Fct) : encG (l ++ m) f = encG l f ++ encG m f := by simp [encG]
theorem encV_some {f : Fct} {l : List Fld} (ho : ownF f.kd = some l) : encV f = encG hdF f ++ encG l f := by
  unfold encV; rw [ho]; exact encG_app _ _ _
theorem hd_kd (g : Fct) : (setL hdF g zF).kd = g.kd := rfl
/-- Reading goes through what a valid fact's encoding begins with. -/
theorem seq_enc {f : Fct} {l : List Fld} (ho : ownF f.kd = some l) (h : ∀ x ∈ hdF ++ l, valF x f = true) (hz : setL (hdF ++ l) zF f = zF) (m : List UInt8) :
    seqF hdF (encV f ++ m) zF (0, 0) = (setL hdF f zF, (((encG hdF f).length : Int), 0)) ∧
    seqF l (encV f ++ m) (setL hdF f zF) (((encG hdF f).length : Int), 0) = (f, (((encV f).length : Int), 0)) := by
  have hk := all_ok ho h
  have h1 := seqF_fwd hdF f zF [] (encG l f ++ m) (fun x hx => hk x (List.mem_append_left _ hx))
  have h2 := seqF_fwd l f (setL hdF f zF) (encG hdF f) m (fun x hx => hk x (List.mem_append_right _ hx))
  simp only [List.nil_append, List.length_nil] at h1
  rw [set_back ho hz] at h2
  rw [encV_some ho, List.append_assoc]
  exact ⟨h1, h2⟩
theorem decF_enc {f : Fct} (h : vF f = true) : decF (encV f) = (f, 0) := by
  obtain ⟨l, ho, hv, hz⟩ := vF_some h
  obtain ⟨h1, h2⟩ := seq_enc ho hv hz []
  rw [List.append_nil] at h1 h2
  unfold decF
  simp only [h1]
  rw [if_neg (by simp), hd_kd, ho]
  simp only [h2]
  rw [if_neg (by simp), if_neg (by omega), if_neg (by simp [h])]
theorem encV_inj {f g : Fct} (hf : vF f = true) (hg : vF g = true) (h : encV f = encV g) : f = g := by
  have h1 := decF_enc hf
  rw [h, decF_enc hg] at h1
  exact (congrArg Prod.fst h1).symm
theorem kd_keep {l : List Fld} (hl : ∀ y ∈ l, y.slot ≠ 2) (s : List UInt8) (f : Fct) (σ : Int × Int) : (seqF l s f σ).1.kd = f.kd :=
  seqF_keep (fun r => r.kd = f.kd) l s f σ (fun y hy g r hr => by have := hl y hy; cases y <;> first | exact hr | exact absurd rfl this) rfl
theorem hd_keep {l : List Fld} (hl : ∀ y ∈ l, ∀ x ∈ hdF, x.slot ≠ y.slot) (s : List UInt8) (f : Fct) (σ : Int × Int) : encG hdF (seqF l s f σ).1 = encG hdF f :=
  seqF_keep (fun r => encG hdF r = encG hdF f) l s f σ (fun y hy g r hr => by
    rw [← hr]
    unfold encG
    simp only [hdF, List.flatMap_cons, List.flatMap_nil]
    rw [encF_other (hl y hy .n (by simp [hdF])), encF_other (hl y hy .tm (by simp [hdF])), encF_other (hl y hy .kd (by simp [hdF]))]) rfl
theorem own_hd {k : Int} {l : List Fld} (h : ownF k = some l) : (∀ y ∈ l, ∀ x ∈ hdF, x.slot ≠ y.slot) ∧ (∀ y ∈ l, y.slot ≠ 2) ∧ hdF.Pairwise (fun x y => x.slot ≠ y.slot) ∧ l.Pairwise (fun x y => x.slot ≠ y.slot) := by
  have := own_apart h
  rw [List.pairwise_append] at this
  exact ⟨fun y hy x hx => this.2.2 x hx y hy, fun y hy => (this.2.2 .kd (by simp [hdF]) y hy).symm, this.1, this.2.1⟩
/-- Writing what was read. -/
theorem encF_dec {s : List UInt8} (h : (decF s).2 = 0) : vF (decF s).1 = true ∧ encV (decF s).1 = s := by
  unfold decF at h ⊢
  simp only at h ⊢
  by_cases h0 : (seqF hdF s zF (0, 0)).2.2 = 0
  · rw [if_neg (by simp [h0])] at h ⊢
    cases ho : ownF (seqF hdF s zF (0, 0)).1.kd with
    | none => rw [ho] at h; simp at h
    | some l =>
      rw [ho] at h
      simp only at h ⊢
      obtain ⟨g1, g2, g3, g4⟩ := own_hd ho
      obtain ⟨k1, a1, a2⟩ := seqF_back hdF s zF 0 g3 (Nat.zero_le _) h0
      have e1 : (seqF hdF s zF (0, 0)).2 = ((k1 : Int), 0) := pair_eq a1 h0
      rw [e1] at h ⊢
      by_cases h3 : (seqF l s (seqF hdF s zF (0, 0)).1 ((k1 : Int), 0)).2.2 = 0
      · rw [if_neg (by simp [h3])] at h ⊢
        obtain ⟨k2, b1, b2⟩ := seqF_back l s (seqF hdF s zF (0, 0)).1 k1 g4 a2.2.1 h3
        by_cases h4 : (seqF l s (seqF hdF s zF (0, 0)).1 ((k1 : Int), 0)).2.1 < s.length
        · rw [if_pos h4] at h; simp at h
        · rw [if_neg h4] at h ⊢
          cases h5 : vF (seqF l s (seqF hdF s zF (0, 0)).1 ((k1 : Int), 0)).1
          · rw [if_pos h5] at h; simp at h
          · rw [if_neg (by simp)]
            refine ⟨h5, ?_⟩
            simp only
            have hkd := kd_keep g2 s (seqF hdF s zF (0, 0)).1 ((k1 : Int), 0)
            rw [encV_some (by rw [hkd]; exact ho), hd_keep g1]
            have hk2 : k2 = s.length := by have := b2.2.1; omega
            have := (a2.app b2).2.2
            rw [hk2] at this
            simp only [List.drop_zero, Nat.sub_zero, List.take_length] at this
            exact this.symm
      · rw [if_pos h3] at h; exact absurd h h3
  · rw [if_pos h0] at h; exact absurd h h0
theorem decF_prefix {f : Fct} (h : vF f = true) (k : Nat) (hk : k < (encV f).length) : (decF ((encV f).take k)).2 = 10 := by
  obtain ⟨l, ho, hv, hz⟩ := vF_some h
  obtain ⟨h1, h2⟩ := seq_enc ho hv hz []
  rw [List.append_nil] at h1 h2
  obtain ⟨g1, g2, g3, g4⟩ := own_hd ho
  have hs : (encV f).take k ++ (encV f).drop k = encV f := List.take_append_drop _ _
  have hlen : ((encV f).take k).length = k := by rw [List.length_take]; omega
  unfold decF
  simp only
  by_cases e : (seqF hdF ((encV f).take k) zF (0, 0)).2.2 = 10
  · rw [if_pos (by rw [e]; decide), e]
  · have h3 := seqF_ext hdF ((encV f).take k) ((encV f).drop k) zF 0 (Nat.zero_le _) e
    rw [hs] at h3
    have h4 : seqF hdF (encV f) zF (0, 0) = seqF hdF ((encV f).take k) zF (0, 0) := h3
    rw [← h4, h1]
    rw [if_neg (by simp), hd_kd, ho]
    simp only
    have hle : (encG hdF f).length ≤ ((encV f).take k).length := by
      have e0 : (seqF hdF ((encV f).take k) zF (0, 0)).2.2 = 0 := by rw [← h4, h1]
      obtain ⟨k1, a1, a2⟩ := seqF_back hdF ((encV f).take k) zF 0 g3 (Nat.zero_le _) e0
      have a1' : (seqF hdF ((encV f).take k) zF (0, 0)).2.1 = k1 := a1
      rw [← h4, h1] at a1'
      have := a2.2.1
      simp only at a1'
      omega
    by_cases e2 : (seqF l ((encV f).take k) (setL hdF f zF) (((encG hdF f).length : Int), 0)).2.2 = 10
    · rw [if_pos (by rw [e2]; decide), e2]
    · exfalso
      have h5 := seqF_ext l ((encV f).take k) ((encV f).drop k) (setL hdF f zF) (encG hdF f).length hle e2
      rw [hs, h2] at h5
      obtain ⟨k2, b1, b2⟩ := seqF_back l ((encV f).take k) (setL hdF f zF) (encG hdF f).length g4 hle (by rw [← h5])
      rw [← h5] at b1
      have := b2.2.1
      simp only at b1
      omega
theorem decF_more {f : Fct} (h : vF f = true) (m : List UInt8) (hm : m ≠ []) : (decF (encV f ++ m)).2 = 10 := by
  obtain ⟨l, ho, hv, hz⟩ := vF_some h
  obtain ⟨h1, h2⟩ := seq_enc ho hv hz m
  have := List.length_pos_iff.2 hm
  unfold decF
  simp only [h1]
  rw [if_neg (by simp), hd_kd, ho]
  simp only [h2]
  rw [if_neg (by simp), if_pos (by rw [List.length_append]; omega)]
/-! ### Errors -/
def ErrS (s : List UInt8) (σ : Int × Int) : Prop := (∃ k : Nat, σ = ((k : Int), 0) ∧ k ≤ s.length) ∨ σ.2 = 10 ∨ σ.2 = 50
theorem errI (s : List UInt8) {σ : Int × Int} (h : ErrS s σ) : ErrS s (rdI s σ).2 := by
  rcases h with ⟨k, rfl, hk⟩ | h
  · by_cases e : (rdI s (k, 0)).2.2 = 0
    · obtain ⟨k', a, b, _⟩ := rdI_ok.back s k hk e
      exact .inl ⟨k', pair_eq a e, b.2.1⟩
    · have hr := refused_int s k hk (by unfold rdI at e; rw [if_pos rfl] at e; exact e)
      have hi : rdI s ((k : Int), 0) = (0, 0, 10) := by unfold rdI; rw [if_pos rfl]; exact hr
      rw [hi]
      exact .inr (.inl rfl)
  · have := (rdI_ok.err s s σ (by rcases h with h | h <;> rw [h] <;> decide)).2
    rw [this]
    exact .inr h
theorem errT (s : List UInt8) {σ : Int × Int} (h : ErrS s σ) : ErrS s (rdS s σ).2 := by
  rcases h with ⟨k, rfl, hk⟩ | h
  · by_cases e : (rdS s (k, 0)).2.2 = 0
    · obtain ⟨k', a, b, _⟩ := rdS_ok.back s k hk e
      exact .inl ⟨k', pair_eq a e, b.2.1⟩
    · have hr := refused_str s k hk (by unfold rdS at e; rw [if_pos rfl] at e; exact e)
      have hi : rdS s ((k : Int), 0) = ([], 0, 10) := by unfold rdS; rw [if_pos rfl]; exact hr
      rw [hi]
      exact .inr (.inl rfl)
  · have := (rdS_ok.err s s σ (by rcases h with h | h <;> rw [h] <;> decide)).2
    rw [this]
    exact .inr h
theorem errN {α : Type} {s : List UInt8} {f : Int × Int → α × (Int × Int)} (hf : ∀ σ, ErrS s σ → ErrS s (f σ).2) : ∀ (n : Nat) (σ : Int × Int), ErrS s σ → ErrS s (rdN f n σ).2
  | 0, σ, h => h
  | n + 1, σ, h => by rw [rdN]; exact errN hf n _ (hf σ h)
theorem errL {α : Type} (s : List UInt8) {f : Int × Int → α × (Int × Int)} (hf : ∀ σ, ErrS s σ → ErrS s (f σ).2) (most : Int) {σ : Int × Int} (h : ErrS s σ) : ErrS s (rdLE 50 s most f σ).2 := by
  unfold rdLE
  split
  · exact h
  · split
    · exact errI s h
    · split
      · exact errN hf _ _ (errI s h)
      · exact .inr (.inr rfl)
theorem errV (x : Fld) (s : List UInt8) {σ : Int × Int} (h : ErrS s σ) : ErrS s (rdV x s σ).2 := by
  cases x
  case tp => exact errL s (fun _ h => errT s h) 4 h
  case bl =>
    show ErrS s (rdBl s σ).2
    unfold rdBl
    simp only
    split
    · exact errT s h
    · split
      · exact .inr (.inr rfl)
      · exact errT s h
  case lb => exact errI s (errI s (errL s (fun _ h => errI s h) 64 (errI s h)))
  all_goals first | exact errI s h | exact errT s h
theorem errSeq : ∀ (l : List Fld) (s : List UInt8) (f : Fct) (σ : Int × Int), ErrS s σ → ErrS s (seqF l s f σ).2
  | [], _, _, _, h => h
  | x :: l, s, f, σ, h => errSeq l s _ _ (errV x s h)
theorem ErrS.out {s : List UInt8} {σ : Int × Int} (h : ErrS s σ) (h0 : σ.2 ≠ 0) : σ.2 = 10 ∨ σ.2 = 50 := by
  rcases h with ⟨k, rfl, _⟩ | h
  · exact absurd rfl h0
  · exact h
theorem decF_err (s : List UInt8) (h : (decF s).2 ≠ 0) : (decF s).1 = zF ∧ ((decF s).2 = 10 ∨ (decF s).2 = 50) := by
  unfold decF at h ⊢
  simp only at h ⊢
  have e1 := errSeq hdF s zF (0, 0) (.inl ⟨0, rfl, Nat.zero_le _⟩)
  by_cases h0 : (seqF hdF s zF (0, 0)).2.2 = 0
  · rw [if_neg (by simp [h0])] at h ⊢
    cases ho : ownF (seqF hdF s zF (0, 0)).1.kd with
    | none => exact ⟨rfl, .inr rfl⟩
    | some l =>
      rw [ho] at h
      simp only at h ⊢
      have e2 := errSeq l s (seqF hdF s zF (0, 0)).1 _ e1
      generalize seqF l s (seqF hdF s zF (0, 0)).1 (seqF hdF s zF (0, 0)).2 = b at h e2 ⊢
      by_cases h1 : b.2.2 = 0
      · rw [if_neg (by simp [h1])] at h ⊢
        split
        · exact ⟨rfl, .inl rfl⟩
        · rename_i h2
          rw [if_neg h2] at h
          split
          · exact ⟨rfl, .inr rfl⟩
          · rename_i h3
            rw [if_neg h3] at h
            exact absurd rfl h
      · rw [if_pos h1]
        exact ⟨rfl, e2.out h1⟩
  · rw [if_pos h0]
    exact ⟨rfl, e1.out h0⟩
/-! ### Redaction -/
def goneF (f : Fct) : Fct := { zF with n := f.n, tm := f.tm, kd := 10, st := f.st }
def cutB (f : Fct) : Bool := decide (f.kd = 1) || (decide (f.kd = 4) || decide (f.kd = 5))
def redF (f : Fct) : Fct := if cutB f = true then goneF f else f
theorem red_valid {f : Fct} (h : vF f = true) : vF (redF f) = true := by
  unfold redF
  split
  · rename_i hc
    obtain ⟨l, ho, hv, hz⟩ := vF_some h
    have hst : Fld.st ∈ hdF ++ l := by
      simp only [cutB, Bool.or_eq_true, decide_eq_true_eq] at hc
      rcases own_cases ho with ⟨hk, rfl⟩ | ⟨hk, rfl⟩ | ⟨hk, rfl⟩ | ⟨hk, rfl⟩ | ⟨hk, rfl⟩ | ⟨hk, rfl⟩ | ⟨hk, rfl⟩ | ⟨hk, rfl⟩ | ⟨hk, rfl⟩ | ⟨hk, rfl⟩ <;> first | (simp [hdF]; done) | omega
    have h1 := hv .n (by simp [hdF])
    have h2 := hv .tm (by simp [hdF])
    have h3 := hv _ hst
    refine vF_of (l := [.st]) rfl ?_ rfl
    intro x hx
    simp only [hdF, List.cons_append, List.nil_append, List.mem_cons, List.not_mem_nil, or_false] at hx
    rcases hx with rfl | rfl | rfl | rfl
    · exact h1
    · exact h2
    · rfl
    · exact h3
  · exact h
theorem red_red (f : Fct) : redF (redF f) = redF f := by
  unfold redF
  split
  · rw [if_neg (by simp [cutB, goneF])]
  · rfl
/-! ### Spoiled fields -/
def usesB (k : Int) (i : Int) : Bool :=
  if i = 0 then decide (k = 2) else if i = 1 then decide (k = 7) else if i = 2 then decide (k = 8) || decide (k = 9) else if i = 3 then decide (k = 8)
  else if i = 4 then decide (k = 1) || decide (k = 4) else if i = 5 then decide (k = 1) else if i = 6 then decide (k = 1) || decide (k = 3) else if i = 7 then decide (k = 1) else decide (k = 4)
/-- What may be done to a field that is zero. -/
def spoilF (i : Int) (f : Fct) : Fct :=
  if i = 0 then { f with ed := f.ed + 1 } else if i = 1 then { f with nm := f.nm ++ [97] } else if i = 2 then { f with pt := f.pt + 1 } else if i = 3 then { f with cl := f.cl + 1 }
  else if i = 4 then { f with lg := f.lg ++ [101] } else if i = 5 then { f with rv := f.rv + 1 } else if i = 6 then { f with lb := ⟨f.lb.u, f.lb.af, f.lb.ap + 1, f.lb.d⟩ } else if i = 7 then { f with tp := f.tp ++ [[122]] } else { f with bk := f.bk + 1 }
end Go.Proofs.YtlhcckjfgpcohaaGreatDoor
