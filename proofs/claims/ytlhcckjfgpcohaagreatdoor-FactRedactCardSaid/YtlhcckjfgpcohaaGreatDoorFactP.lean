/- Facts as plain data: valid, the same, encoded, decoded, redacted; the laws of these. -/
import Derived.Test.YtlhcckjfgpcohaaGreatDoorBlkE3
namespace Go.Proofs.YtlhcckjfgpcohaaGreatDoor
set_option linter.unusedSimpArgs false
set_option linter.unusedVariables false
structure Fct where
  n : Int
  tm : Int
  kd : Int
  st : Int
  lg : List UInt8
  rv : Int
  bs : Int
  ti : List UInt8
  au : List UInt8
  tp : List (List UInt8)
  bl : List Blk
  lb : Lab
  ed : Int
  bk : Int
  se : Int
  tx : List UInt8
  nm : List UInt8
  pt : Int
  cl : Int
  un : Int
def zF : Fct := ⟨0, 0, 0, 0, [], 0, 0, [], [], [], [], zeroL, 0, 0, 0, [], [], 0, 0, 0⟩
/-- The fields; the text of a template is read in another way than that of a correction. -/
inductive Fld where
  | n | tm | kd | st | lg | rv | bs | ti | au | tp | bl | lb | ed | bk | se | tx | sx | nm | pt | cl | un
def Fld.slot : Fld → Nat
  | .n => 0 | .tm => 1 | .kd => 2 | .st => 3 | .lg => 4 | .rv => 5 | .bs => 6 | .ti => 7 | .au => 8 | .tp => 9 | .bl => 10 | .lb => 11 | .ed => 12 | .bk => 13 | .se => 14 | .tx => 15 | .sx => 15 | .nm => 16 | .pt => 17 | .cl => 18 | .un => 19
def hdF : List Fld := [.n, .tm, .kd]
def ownF (k : Int) : Option (List Fld) :=
  if k = 1 then some [.st, .lg, .rv, .bs, .ti, .au, .tp, .bl, .lb]
  else if k = 2 then some [.st, .ed]
  else if k = 3 then some [.st, .lb]
  else if k = 4 then some [.st, .lg, .bk, .se, .tx]
  else if k = 5 then some [.st, .tx]
  else if k = 6 then some [.st]
  else if k = 7 then some [.nm, .sx]
  else if k = 8 then some [.pt, .cl, .un]
  else if k = 9 then some [.pt, .un]
  else if k = 10 then some [.st]
  else none
def srcC (c : UInt8) : Bool := decide (c.toNat = 10) || prB c
def fullT (t : List UInt8) : Bool := inB (t.length : Int) 1 300 && t.all prB
def srcT (t : List UInt8) : Bool := decide (t.length ≤ 1000) && t.all srcC
def ascT : List (List UInt8) → Bool
  | [] => true
  | [a] => true
  | a :: b :: l => Op.bytesLess a b && ascT (b :: l)
def topB (l : List (List UInt8)) : Bool := decide (l.length ≤ 4) && (l.all nameB && ascT l)
def valF (x : Fld) (f : Fct) : Bool :=
  match x with
  | .n => inB f.n 0 500 | .tm => inB f.tm 0 1000000000 | .kd => inB f.kd 1 10 | .st => inB f.st 1 64 | .lg => nameB f.lg
  | .rv => inB f.rv 1 100 | .bs => inB f.bs 0 (f.rv - 1) | .ti => fullT f.ti | .au => nameB f.au | .tp => topB f.tp
  | .bl => vL f.bl | .lb => validB f.lb | .ed => inB f.ed 1 5 | .bk => inB f.bk 1 1000 | .se => inB f.se 0 299
  | .tx => fullT f.tx | .sx => srcT f.tx | .nm => nameB f.nm | .pt => inB f.pt 1 8 | .cl => inB f.cl 0 3 | .un => inB f.un 0 1000000000
/-- f with one field of g. -/
def setF (x : Fld) (g f : Fct) : Fct :=
  match x with
  | .n => { f with n := g.n } | .tm => { f with tm := g.tm } | .kd => { f with kd := g.kd } | .st => { f with st := g.st } | .lg => { f with lg := g.lg }
  | .rv => { f with rv := g.rv } | .bs => { f with bs := g.bs } | .ti => { f with ti := g.ti } | .au => { f with au := g.au } | .tp => { f with tp := g.tp }
  | .bl => { f with bl := g.bl } | .lb => { f with lb := g.lb } | .ed => { f with ed := g.ed } | .bk => { f with bk := g.bk } | .se => { f with se := g.se }
  | .tx => { f with tx := g.tx } | .sx => { f with tx := g.tx } | .nm => { f with nm := g.nm } | .pt => { f with pt := g.pt } | .cl => { f with cl := g.cl } | .un => { f with un := g.un }
def setL (l : List Fld) (g f : Fct) : Fct := l.foldl (fun r x => setF x g r) f
def tpS : List (List UInt8) → List (List UInt8) → Bool
  | [], [] => true
  | a :: l, b :: m => decide (a = b) && tpS l m
  | _, _ => false
def sF (a b : Fct) : Bool :=
  decide (a.n = b.n) && (decide (a.tm = b.tm) && (decide (a.kd = b.kd) && (decide (a.st = b.st) && (decide (a.lg = b.lg) && (decide (a.rv = b.rv) && (decide (a.bs = b.bs) &&
  (decide (a.ti = b.ti) && (decide (a.au = b.au) && (decide (a.tp = b.tp) && (sL a.bl b.bl && (sameB a.lb b.lb && (decide (a.ed = b.ed) && (decide (a.bk = b.bk) && (decide (a.se = b.se) &&
  (decide (a.tx = b.tx) && (decide (a.nm = b.nm) && (decide (a.pt = b.pt) && (decide (a.cl = b.cl) && decide (a.un = b.un)))))))))))))))))))
def vF (f : Fct) : Bool :=
  match ownF f.kd with
  | none => false
  | some l => (hdF ++ l).all (fun x => valF x f) && sF (setL (hdF ++ l) zF f) zF
theorem fct_ext {a b : Fct} (h0 : a.n = b.n) (h1 : a.tm = b.tm) (h2 : a.kd = b.kd) (h3 : a.st = b.st) (h4 : a.lg = b.lg) (h5 : a.rv = b.rv) (h6 : a.bs = b.bs) (h7 : a.ti = b.ti) (h8 : a.au = b.au) (h9 : a.tp = b.tp) (h10 : a.bl = b.bl) (h11 : a.lb = b.lb)
    (h12 : a.ed = b.ed) (h13 : a.bk = b.bk) (h14 : a.se = b.se) (h15 : a.tx = b.tx) (h16 : a.nm = b.nm) (h17 : a.pt = b.pt) (h18 : a.cl = b.cl) (h19 : a.un = b.un) : a = b := by cases a; cases b; simp_all
theorem sF_iff (a b : Fct) : sF a b = true ↔ a = b := by
  constructor
  · intro h
    simp only [sF, Bool.and_eq_true, decide_eq_true_eq, sameB_iff, sL_iff] at h
    obtain ⟨h0, h1, h2, h3, h4, h5, h6, h7, h8, h9, h10, h11, h12, h13, h14, h15, h16, h17, h18, h19⟩ := h
    exact fct_ext h0 h1 h2 h3 h4 h5 h6 h7 h8 h9 h10 h11 h12 h13 h14 h15 h16 h17 h18 h19
  · rintro rfl
    simp [sF, (sameB_iff _ _).2 rfl, sL_self]
theorem sF_self (a : Fct) : sF a a = true := (sF_iff a a).2 rfl
theorem sF_comm (a b : Fct) : sF a b = sF b a := by
  rw [Bool.eq_iff_iff, sF_iff, sF_iff]; exact eq_comm

/-! ### Writing and reading -/
def encA (l : Lab) : List UInt8 := encInt l.u ++ (encN l.af ++ (encInt l.ap ++ encInt l.d))
def encF (x : Fld) (f : Fct) : List UInt8 :=
  match x with
  | .n => encInt f.n | .tm => encInt f.tm | .kd => encInt f.kd | .st => encInt f.st | .lg => encS f.lg
  | .rv => encInt f.rv | .bs => encInt f.bs | .ti => encS f.ti | .au => encS f.au | .tp => encM encS f.tp
  | .bl => encS (encL f.bl) | .lb => encA f.lb | .ed => encInt f.ed | .bk => encInt f.bk | .se => encInt f.se
  | .tx => encS f.tx | .sx => encS f.tx | .nm => encS f.nm | .pt => encInt f.pt | .cl => encInt f.cl | .un => encInt f.un
def encG (l : List Fld) (f : Fct) : List UInt8 := l.flatMap fun x => encF x f
def encV (f : Fct) : List UInt8 := encG (hdF ++ (ownF f.kd).getD []) f
def encE (f : Fct) : List UInt8 × Int := if vF f = true then (encV f, 0) else ([], 50)
def rdLE {α : Type} (err : Int) (s : List UInt8) (most : Int) (f : Int × Int → α × (Int × Int)) (σ : Int × Int) : List α × (Int × Int) :=
  if σ.2 ≠ 0 then ([], σ) else if (rdI s σ).2.2 ≠ 0 then ([], (rdI s σ).2) else
  if inB (rdI s σ).1 0 most = true then rdN f (rdI s σ).1.toNat (rdI s σ).2 else ([], ((rdI s σ).2.1, err))
def rdBl (s : List UInt8) (σ : Int × Int) : List Blk × (Int × Int) :=
  let r := rdS s σ
  if r.2.2 ≠ 0 then ([], r.2) else if (decP r.1).2 ≠ 0 then ([], (r.2.1, 50)) else ((decP r.1).1, r.2)
def rdA (s : List UInt8) (σ : Int × Int) : Lab × (Int × Int) :=
  let u := rdI s σ
  let l := rdLE 50 s 64 (rdI s) u.2
  let p := rdI s l.2
  let q := rdI s p.2
  (⟨u.1, l.1, p.1, q.1⟩, q.2)
def rdV (x : Fld) (s : List UInt8) (σ : Int × Int) : Fct × (Int × Int) :=
  match x with
  | .n => ({ zF with n := (rdI s σ).1 }, (rdI s σ).2) | .tm => ({ zF with tm := (rdI s σ).1 }, (rdI s σ).2) | .kd => ({ zF with kd := (rdI s σ).1 }, (rdI s σ).2)
  | .st => ({ zF with st := (rdI s σ).1 }, (rdI s σ).2) | .lg => ({ zF with lg := (rdS s σ).1 }, (rdS s σ).2)
  | .rv => ({ zF with rv := (rdI s σ).1 }, (rdI s σ).2) | .bs => ({ zF with bs := (rdI s σ).1 }, (rdI s σ).2) | .ti => ({ zF with ti := (rdS s σ).1 }, (rdS s σ).2)
  | .au => ({ zF with au := (rdS s σ).1 }, (rdS s σ).2) | .tp => ({ zF with tp := (rdLE 50 s 4 (rdS s) σ).1 }, (rdLE 50 s 4 (rdS s) σ).2)
  | .bl => ({ zF with bl := (rdBl s σ).1 }, (rdBl s σ).2) | .lb => ({ zF with lb := (rdA s σ).1 }, (rdA s σ).2)
  | .ed => ({ zF with ed := (rdI s σ).1 }, (rdI s σ).2) | .bk => ({ zF with bk := (rdI s σ).1 }, (rdI s σ).2) | .se => ({ zF with se := (rdI s σ).1 }, (rdI s σ).2)
  | .tx => ({ zF with tx := (rdS s σ).1 }, (rdS s σ).2) | .sx => ({ zF with tx := (rdS s σ).1 }, (rdS s σ).2) | .nm => ({ zF with nm := (rdS s σ).1 }, (rdS s σ).2)
  | .pt => ({ zF with pt := (rdI s σ).1 }, (rdI s σ).2) | .cl => ({ zF with cl := (rdI s σ).1 }, (rdI s σ).2) | .un => ({ zF with un := (rdI s σ).1 }, (rdI s σ).2)
def seqF : List Fld → List UInt8 → Fct → Int × Int → Fct × (Int × Int)
  | [], _, f, σ => (f, σ)
  | x :: l, s, f, σ => seqF l s (setF x (rdV x s σ).1 f) (rdV x s σ).2
def decF (s : List UInt8) : Fct × Int :=
  let a := seqF hdF s zF (0, 0)
  if a.2.2 ≠ 0 then (zF, a.2.2) else
  match ownF a.1.kd with
  | none => (zF, 50)
  | some l =>
    let b := seqF l s a.1 a.2
    if b.2.2 ≠ 0 then (zF, b.2.2) else if b.2.1 < s.length then (zF, 10) else if vF b.1 = false then (zF, 50) else (b.1, 0)

section
variable {α : Type} {f : List UInt8 → Int × Int → α × (Int × Int)} {ef : α → List UInt8} {of : α → Prop}
theorem Rdr.into (hf : Rdr f ef of) (m : α → Fct) (n : Fct → α) (h1 : ∀ x, n (m x) = x) : Rdr (fun s σ => (m (f s σ).1, (f s σ).2)) (fun y => ef (n y)) (fun y => of (n y) ∧ m (n y) = y) where
  err s s' σ h := by
    obtain ⟨h1, h2⟩ := hf.err s s' σ h
    exact ⟨by rw [h1], h2⟩
  fwd p q x h := by
    have := hf.fwd p q (n x) h.1
    simp only [this, h.2]
  back s k hk h := by
    obtain ⟨k', a, b, c⟩ := hf.back s k hk h
    exact ⟨k', a, by rw [h1]; exact b, by rw [h1]; exact ⟨c, rfl⟩⟩
  ext s r k hk h := by rw [hf.ext s r k hk h]
theorem Rdr.manyE (hf : Rdr f ef of) (e0 : Int) (he : e0 ≠ 0) (most : Int) (hm : 0 ≤ most ∧ most ≤ 1000) : Rdr (fun s => rdLE e0 s most (f s)) (encM ef) (fun l => (l.length : Int) ≤ most ∧ ∀ x ∈ l, of x) where
  err s s' σ h := by
    unfold rdLE
    rw [if_pos h, if_pos h]
    exact ⟨rfl, rfl⟩
  fwd p q l h := by
    have h1 := rdI_ok.fwd p (l.flatMap ef ++ q) (l.length : Int) (by rw [okInt_iff]; omega)
    have h2 := rdN_fwd hf l (p ++ encInt (l.length : Int)) q h.2
    rw [List.append_assoc] at h2
    unfold rdLE encM
    rw [List.append_assoc (encInt _), h1]
    simp only
    rw [if_neg (by simp), if_neg (by simp), if_pos (by simp [inB]; omega), Int.toNat_natCast, h2]
    simp
  back s k hk h := by
    unfold rdLE at h ⊢
    rw [if_neg (by simp)] at h ⊢
    by_cases h00 : (rdI s (k, 0)).2.2 = 0
    · rw [if_neg (by simp [h00])] at h ⊢
      by_cases g : inB (rdI s (k, 0)).1 0 most = true
      · rw [if_pos g] at h ⊢
        obtain ⟨k1, a1, a2, a3⟩ := rdI_ok.back s k hk h00
        rw [pair_eq a1 h00] at h ⊢
        obtain ⟨k2, b1, b2, b3⟩ := rdN_back hf s _ k1 a2.2.1 h
        have hl := rdN_len (f s) (rdI s (k, 0)).1.toNat ((k1 : Int), 0)
        simp only [inB, decide_eq_true_eq] at g
        refine ⟨k2, b1, ?_, ?_, b3⟩
        · unfold encM
          rw [hl, Int.toNat_of_nonneg g.1]
          exact a2.app b2
        · rw [hl]; omega
      · rw [if_neg g] at h
        exact absurd h he
    · rw [if_pos h00] at h
      exact absurd h h00
  ext s r k hk h := by
    have z : ¬ (((k : Int), (0 : Int)).2 ≠ 0) := by simp
    unfold rdLE at h ⊢
    rw [if_neg z] at h
    rw [if_neg z, if_neg z]
    by_cases e : (rdI s (k, 0)).2.2 = 0
    · obtain ⟨k1, a1, a2, _⟩ := rdI_ok.back s k hk e
      rw [rdI_ok.ext s r k hk (by rw [e]; decide)]
      have z2 : ¬ ((rdI s ((k : Int), 0)).2.2 ≠ 0) := by simp [e]
      rw [if_neg z2] at h
      rw [if_neg z2, if_neg z2]
      by_cases g : inB (rdI s (k, 0)).1 0 most = true
      · rw [if_pos g] at h ⊢
        rw [if_pos g]
        rw [pair_eq a1 e] at h ⊢
        rw [rdN_ext hf s r _ k1 a2.2.1 h]
      · rw [if_neg g, if_neg g]
    · rw [if_pos e] at h
      have hr := refused_int s k hk (by unfold rdI at e; rw [if_pos rfl] at e; exact e)
      have hi : rdI s ((k : Int), 0) = (0, 0, 10) := by unfold rdI; rw [if_pos rfl]; exact hr
      rw [hi] at h
      exact absurd rfl h
end
theorem encL_le {l : List Blk} (h : vL l = true) : (encL l).length ≤ 65536 := by
  simp only [vL, Bool.and_eq_true, decide_eq_true_eq, List.all_eq_true] at h
  have h1 := encs_len l h.2.1
  have h2 := encInt_len (l.length : Int)
  unfold encL
  rw [List.length_append]
  omega
theorem rdBl_ok : Rdr rdBl (fun l => encS (encL l)) (fun l => vL l = true) where
  err s s' σ h := by
    obtain ⟨h1, h2⟩ := rdS_ok.err s s' σ h
    have h3 : (rdS s' σ).2 = σ := by rw [← h1]; exact h2
    unfold rdBl
    simp only
    rw [if_pos (by rw [h2]; exact h), if_pos (by rw [h3]; exact h), h2, h3]
    exact ⟨rfl, rfl⟩
  fwd p q l h := by
    have h1 := rdS_ok.fwd p q (encL l) (encL_le h)
    unfold rdBl
    simp only [h1, dec_enc h]
    simp
  back s k hk h := by
    unfold rdBl at h ⊢
    simp only at h ⊢
    by_cases h0 : (rdS s (k, 0)).2.2 = 0
    · rw [if_neg (by simp [h0])] at h ⊢
      by_cases h1 : (decP (rdS s (k, 0)).1).2 = 0
      · rw [if_neg (by simp [h1])] at h ⊢
        obtain ⟨k', a, b, c⟩ := rdS_ok.back s k hk h0
        obtain ⟨d1, d2⟩ := enc_dec h1
        exact ⟨k', a, by simp only [d2]; exact b, d1⟩
      · rw [if_pos h1] at h; simp at h
    · rw [if_pos h0] at h; exact absurd h h0
  ext s r k hk h := by
    unfold rdBl at h ⊢
    simp only at h ⊢
    by_cases h0 : (rdS s (k, 0)).2.2 = 0
    · rw [rdS_ok.ext s r k hk (by rw [h0]; decide)]
    · rw [if_pos h0] at h
      rw [rdS_ok.ext s r k hk h]
abbrev NestA : Type := Int × (List Int × (Int × Int))
theorem rdA_ok : Rdr rdA encA (fun l => okInt l.u = true ∧ (((l.af.length : Int) ≤ 64 ∧ ∀ x ∈ l.af, okInt x = true) ∧ (okInt l.ap = true ∧ okInt l.d = true))) :=
  (rdI_ok.seq ((rdI_ok.manyE 50 (by decide) 64 (by decide)).seq (rdI_ok.seq rdI_ok))).map (fun x : NestA => (⟨x.1, x.2.1, x.2.2.1, x.2.2.2⟩ : Lab)) (fun l => (l.u, l.af, l.ap, l.d)) (fun _ => rfl) (fun _ => rfl)
/-- What a field must be to be written and read again. -/
def okF (x : Fld) (f : Fct) : Prop :=
  match x with
  | .n => okInt f.n = true | .tm => okInt f.tm = true | .kd => okInt f.kd = true | .st => okInt f.st = true | .lg => f.lg.length ≤ 65536
  | .rv => okInt f.rv = true | .bs => okInt f.bs = true | .ti => f.ti.length ≤ 65536 | .au => f.au.length ≤ 65536 | .tp => (f.tp.length : Int) ≤ 4 ∧ ∀ t ∈ f.tp, t.length ≤ 65536
  | .bl => vL f.bl = true | .lb => okInt f.lb.u = true ∧ (((f.lb.af.length : Int) ≤ 64 ∧ ∀ x ∈ f.lb.af, okInt x = true) ∧ (okInt f.lb.ap = true ∧ okInt f.lb.d = true))
  | .ed => okInt f.ed = true | .bk => okInt f.bk = true | .se => okInt f.se = true
  | .tx => f.tx.length ≤ 65536 | .sx => f.tx.length ≤ 65536 | .nm => f.nm.length ≤ 65536 | .pt => okInt f.pt = true | .cl => okInt f.cl = true | .un => okInt f.un = true
def onlyF (x : Fld) (f : Fct) : Fct := setF x f zF
theorem rdV_ok (x : Fld) : Rdr (rdV x) (encF x) (fun f => okF x f ∧ onlyF x f = f) := by
  cases x
  · exact rdI_ok.into (fun v => { zF with n := v }) Fct.n (fun _ => rfl)
  · exact rdI_ok.into (fun v => { zF with tm := v }) Fct.tm (fun _ => rfl)
  · exact rdI_ok.into (fun v => { zF with kd := v }) Fct.kd (fun _ => rfl)
  · exact rdI_ok.into (fun v => { zF with st := v }) Fct.st (fun _ => rfl)
  · exact rdS_ok.into (fun v => { zF with lg := v }) Fct.lg (fun _ => rfl)
  · exact rdI_ok.into (fun v => { zF with rv := v }) Fct.rv (fun _ => rfl)
  · exact rdI_ok.into (fun v => { zF with bs := v }) Fct.bs (fun _ => rfl)
  · exact rdS_ok.into (fun v => { zF with ti := v }) Fct.ti (fun _ => rfl)
  · exact rdS_ok.into (fun v => { zF with au := v }) Fct.au (fun _ => rfl)
  · exact (rdS_ok.manyE 50 (by decide) 4 (by decide)).into (fun v => { zF with tp := v }) Fct.tp (fun _ => rfl)
  · exact rdBl_ok.into (fun v => { zF with bl := v }) Fct.bl (fun _ => rfl)
  · exact rdA_ok.into (fun v => { zF with lb := v }) Fct.lb (fun _ => rfl)
  · exact rdI_ok.into (fun v => { zF with ed := v }) Fct.ed (fun _ => rfl)
  · exact rdI_ok.into (fun v => { zF with bk := v }) Fct.bk (fun _ => rfl)
  · exact rdI_ok.into (fun v => { zF with se := v }) Fct.se (fun _ => rfl)
  · exact rdS_ok.into (fun v => { zF with tx := v }) Fct.tx (fun _ => rfl)
  · exact rdS_ok.into (fun v => { zF with tx := v }) Fct.tx (fun _ => rfl)
  · exact rdS_ok.into (fun v => { zF with nm := v }) Fct.nm (fun _ => rfl)
  · exact rdI_ok.into (fun v => { zF with pt := v }) Fct.pt (fun _ => rfl)
  · exact rdI_ok.into (fun v => { zF with cl := v }) Fct.cl (fun _ => rfl)
  · exact rdI_ok.into (fun v => { zF with un := v }) Fct.un (fun _ => rfl)
theorem encF_only (x : Fld) (f : Fct) : encF x (onlyF x f) = encF x f := by cases x <;> rfl
theorem okF_only (x : Fld) (f : Fct) : okF x (onlyF x f) = okF x f := by cases x <;> rfl
theorem only_only (x : Fld) (f : Fct) : onlyF x (onlyF x f) = onlyF x f := by cases x <;> rfl
theorem set_only (x : Fld) (g f : Fct) : setF x (onlyF x g) f = setF x g f := by cases x <;> rfl
theorem encF_set (x : Fld) (g f : Fct) : encF x (setF x g f) = encF x g := by cases x <;> rfl
theorem okF_set (x : Fld) (g f : Fct) : okF x (setF x g f) = okF x g := by cases x <;> rfl
theorem encF_other {x y : Fld} (h : x.slot ≠ y.slot) (g f : Fct) : encF x (setF y g f) = encF x f := by
  cases x <;> cases y <;> first | rfl | exact absurd rfl h
theorem okF_other {x y : Fld} (h : x.slot ≠ y.slot) (g f : Fct) : okF x (setF y g f) = okF x f := by
  cases x <;> cases y <;> first | rfl | exact absurd rfl h
theorem seqF_err : ∀ (l : List Fld) (s s' : List UInt8) (f : Fct) (σ : Int × Int), σ.2 ≠ 0 → seqF l s f σ = seqF l s' f σ ∧ (seqF l s f σ).2 = σ
  | [], s, s', f, σ, _ => ⟨rfl, rfl⟩
  | x :: l, s, s', f, σ, h => by
    obtain ⟨h1, h2⟩ := (rdV_ok x).err s s' σ h
    have h3 : (rdV x s' σ).2 = σ := by rw [← h1]; exact h2
    simp only [seqF]
    rw [← h1, h2]
    exact seqF_err l s s' _ σ h
theorem seqF_fwd : ∀ (l : List Fld) (g f : Fct) (p q : List UInt8), (∀ x ∈ l, okF x g) → seqF l (p ++ (encG l g ++ q)) f ((p.length : Int), 0) = (setL l g f, (((p ++ encG l g).length : Int), 0))
  | [], g, f, p, q, _ => by simp [seqF, setL, encG]
  | x :: l, g, f, p, q, h => by
    have h1 := (rdV_ok x).fwd p (encG l g ++ q) (onlyF x g) ⟨by rw [okF_only]; exact h x List.mem_cons_self, only_only x g⟩
    rw [encF_only] at h1
    have h2 := seqF_fwd l g (setF x g f) (p ++ encF x g) q (fun y hy => h y (List.mem_cons_of_mem _ hy))
    rw [List.append_assoc] at h2
    have e : encG (x :: l) g = encF x g ++ encG l g := by simp [encG]
    rw [e, List.append_assoc]
    simp only [seqF, h1, set_only, h2]
    simp [setL]
theorem seqF_keep (P : Fct → Prop) : ∀ (l : List Fld) (s : List UInt8) (f : Fct) (σ : Int × Int), (∀ y ∈ l, ∀ g f, P f → P (setF y g f)) → P f → P (seqF l s f σ).1
  | [], s, f, σ, _, h => h
  | y :: l, s, f, σ, hy, h => by
    simp only [seqF]
    exact seqF_keep P l s _ _ (fun z hz => hy z (List.mem_cons_of_mem _ hz)) (hy y List.mem_cons_self _ _ h)
theorem seqF_back : ∀ (l : List Fld) (s : List UInt8) (f : Fct) (k : Nat), l.Pairwise (fun x y => x.slot ≠ y.slot) → k ≤ s.length → (seqF l s f (k, 0)).2.2 = 0 →
    ∃ k' : Nat, (seqF l s f (k, 0)).2.1 = k' ∧ Eats s k k' (encG l (seqF l s f (k, 0)).1)
  | [], s, f, k, _, hk, _ => ⟨k, rfl, Eats.nil hk⟩
  | x :: l, s, f, k, hp, hk, h => by
    rw [List.pairwise_cons] at hp
    simp only [seqF] at h ⊢
    have h0 : (rdV x s (k, 0)).2.2 = 0 := by
      by_cases e : (rdV x s (k, 0)).2.2 = 0
      · exact e
      · rw [(seqF_err l s s _ _ e).2] at h; exact h
    obtain ⟨k1, a1, a2, a3, _⟩ := (rdV_ok x).back s k hk h0
    rw [pair_eq a1 h0] at h ⊢
    obtain ⟨k2, b1, b2⟩ := seqF_back l s _ k1 hp.2 a2.2.1 h
    refine ⟨k2, b1, ?_⟩
    have e : encF x (seqF l s (setF x (rdV x s (k, 0)).1 f) ((k1 : Int), 0)).1 = encF x (rdV x s (k, 0)).1 :=
      seqF_keep (fun r => encF x r = encF x (rdV x s (k, 0)).1) l s _ _ (fun y hy g f hf => by rw [encF_other (hp.1 y hy)]; exact hf) (encF_set x _ f)
    have e2 : ∀ r, encG (x :: l) r = encF x r ++ encG l r := fun r => by simp [encG]
    rw [e2, e]
    exact a2.app b2
theorem seqF_ext : ∀ (l : List Fld) (s r : List UInt8) (f : Fct) (k : Nat), k ≤ s.length → (seqF l s f (k, 0)).2.2 ≠ 10 → seqF l (s ++ r) f (k, 0) = seqF l s f (k, 0)
  | [], s, r, f, k, _, _ => rfl
  | x :: l, s, r, f, k, hk, h => by
    simp only [seqF] at h ⊢
    by_cases e : (rdV x s (k, 0)).2.2 = 0
    · obtain ⟨k1, a1, a2, _⟩ := (rdV_ok x).back s k hk e
      rw [(rdV_ok x).ext s r k hk (by rw [e]; decide)]
      rw [pair_eq a1 e] at h ⊢
      exact seqF_ext l s r _ k1 a2.2.1 h
    · rw [(seqF_err l s (s ++ r) _ _ e).2] at h
      rw [(rdV_ok x).ext s r k hk h]
      exact (seqF_err l s (s ++ r) _ _ e).1.symm
end Go.Proofs.YtlhcckjfgpcohaaGreatDoor
