/- The reference's way of decoding blocks as plain data, and that it answers as Decode does. -/
import Derived.Test.YtdhioalfgogcdaaGreatDoorBlkP
namespace Go.Proofs.YtdhioalfgogcdaaGreatDoor
set_option linter.unusedSimpArgs false
set_option linter.unusedVariables false
def rfI (s : List UInt8) (σ : Int × Int) : Int × (Int × Int) := if σ.2 ≠ 0 then (0, σ) else if (intAt s σ.1).2.2 ≠ 0 then (0, (σ.1, 10)) else intAt s σ.1
def rfS (s : List UInt8) (σ : Int × Int) : List UInt8 × (Int × Int) := if σ.2 ≠ 0 then ([], σ) else if (strAt s σ.1).2.2 ≠ 0 then ([], (σ.1, 10)) else strAt s σ.1
def rfN {α : Type} (f : Int × Int → α × (Int × Int)) : Nat → Int × Int → List α × (Int × Int)
  | 0, σ => ([], σ)
  | n + 1, σ => if σ.2 ≠ 0 then ([], σ) else ((f σ).1 :: (rfN f n (f σ).2).1, (rfN f n (f σ).2).2)
def rfC (s : List UInt8) (most : Int) (σ : Int × Int) : Int × (Int × Int) :=
  if (rfI s σ).2.2 ≠ 0 then (0, (rfI s σ).2) else if inB (rfI s σ).1 0 most = true then rfI s σ else (0, ((rfI s σ).2.1, 30))
def rfL {α : Type} (s : List UInt8) (most : Int) (f : Int × Int → α × (Int × Int)) (σ : Int × Int) : List α × (Int × Int) := rfN f (rfC s most σ).1.toNat (rfC s most σ).2
def rfB (s : List UInt8) (σ : Int × Int) : Blk × (Int × Int) :=
  let a := rfI s σ
  let b := rfI s a.2
  let t := rfS s b.2
  let c := rfI s t.2
  let d := rfI s c.2
  let u := rfI s d.2
  let l := rfL s 64 (rfI s) u.2
  let p := rfI s l.2
  let q := rfI s p.2
  (⟨a.1, b.1, t.1, c.1, d.1, ⟨u.1, l.1, p.1, q.1⟩⟩, q.2)
def rfD (s : List UInt8) : List Blk × Int :=
  let l := rfL s 24 (rfB s) (0, 0)
  if l.2.2 ≠ 0 then ([], l.2.2) else if l.2.1 ≠ s.length then ([], 10) else if vL l.1 = false then ([], 30) else (l.1, 0)
/-- Two readers stand alike: at the same error, and at the same place while there is none. -/
def Al (s : List UInt8) (σ τ : Int × Int) : Prop := σ.2 = τ.2 ∧ (σ.2 = 0 → σ = τ ∧ ∃ k : Nat, σ.1 = (k : Int) ∧ k ≤ s.length)
/-- Their answers are alike. -/
def Aq {α : Type} (s : List UInt8) (x y : α × (Int × Int)) : Prop := Al s x.2 y.2 ∧ (x.2.2 = 0 → x.1 = y.1)
theorem al_I (s : List UInt8) {σ τ : Int × Int} (h : Al s σ τ) : Aq s (rdI s σ) (rfI s τ) := by
  by_cases e : σ.2 = 0
  · obtain ⟨rfl, k, hk, hl⟩ := h.2 e
    obtain ⟨a, b⟩ := σ
    simp only at e hk
    subst e hk
    unfold rfI
    rw [if_neg (by simp)]
    by_cases g : (intAt s (k : Int)).2.2 = 0
    · rw [if_neg (by simp [g])]
      have hr : rdI s ((k : Int), 0) = intAt s k := by unfold rdI; rw [if_pos rfl]
      obtain ⟨k', a1, a2, _⟩ := rdI_ok.back s k hl (by rw [hr]; exact g)
      rw [hr] at a1 ⊢
      exact ⟨⟨rfl, fun _ => ⟨rfl, k', a1, a2.2.1⟩⟩, fun _ => rfl⟩
    · rw [if_pos g]
      have hr : rdI s ((k : Int), 0) = (0, 0, 10) := by unfold rdI; rw [if_pos rfl]; exact refused_int s k hl g
      rw [hr]
      exact ⟨⟨rfl, fun h => by simp at h⟩, fun h => by simp at h⟩
  · have e2 : τ.2 ≠ 0 := by rw [← h.1]; exact e
    unfold rdI rfI
    rw [if_neg e, if_pos e2]
    exact ⟨h, fun _ => rfl⟩
theorem al_S (s : List UInt8) {σ τ : Int × Int} (h : Al s σ τ) : Aq s (rdS s σ) (rfS s τ) := by
  by_cases e : σ.2 = 0
  · obtain ⟨rfl, k, hk, hl⟩ := h.2 e
    obtain ⟨a, b⟩ := σ
    simp only at e hk
    subst e hk
    unfold rfS
    rw [if_neg (by simp)]
    by_cases g : (strAt s (k : Int)).2.2 = 0
    · rw [if_neg (by simp [g])]
      have hr : rdS s ((k : Int), 0) = strAt s k := by unfold rdS; rw [if_pos rfl]
      obtain ⟨k', a1, a2, _⟩ := rdS_ok.back s k hl (by rw [hr]; exact g)
      rw [hr] at a1 ⊢
      exact ⟨⟨rfl, fun _ => ⟨rfl, k', a1, a2.2.1⟩⟩, fun _ => rfl⟩
    · rw [if_pos g]
      have hr : rdS s ((k : Int), 0) = ([], 0, 10) := by unfold rdS; rw [if_pos rfl]; exact refused_str s k hl g
      rw [hr]
      exact ⟨⟨rfl, fun h => by simp at h⟩, fun h => by simp at h⟩
  · have e2 : τ.2 ≠ 0 := by rw [← h.1]; exact e
    unfold rdS rfS
    rw [if_neg e, if_pos e2]
    exact ⟨h, fun _ => rfl⟩
theorem al_N {α : Type} (s : List UInt8) {f g : Int × Int → α × (Int × Int)} (he : ∀ σ : Int × Int, σ.2 ≠ 0 → (f σ).2 = σ) (h : ∀ σ τ, Al s σ τ → Aq s (f σ) (g τ)) :
    ∀ (n : Nat) (σ τ : Int × Int), Al s σ τ → Aq s (rdN f n σ) (rfN g n τ)
  | 0, σ, τ, ha => ⟨ha, fun _ => rfl⟩
  | n + 1, σ, τ, ha => by
    by_cases e : σ.2 = 0
    · have e2 : ¬ τ.2 ≠ 0 := by rw [← ha.1]; simp [e]
      rw [rdN, rfN, if_neg e2]
      have h1 := h σ τ ha
      have h2 := al_N s he h n _ _ h1.1
      refine ⟨h2.1, fun h0 => ?_⟩
      have h3 : (f σ).2.2 = 0 := by
        by_cases e3 : (f σ).2.2 = 0
        · exact e3
        · exfalso
          have : ∀ (m : Nat) (ρ : Int × Int), ρ.2 ≠ 0 → (rdN f m ρ).2 = ρ := by
            intro m
            induction m with
            | zero => intro ρ _; rfl
            | succ m ih => intro ρ hρ; rw [rdN]; simp only; rw [he ρ hρ]; exact ih ρ hρ
          have h4 : (rdN f n (f σ).2).2.2 = 0 := h0
          rw [this n _ e3] at h4
          exact e3 h4
      show (f σ).1 :: _ = (g τ).1 :: _
      rw [h1.2 h3]
      exact congrArg _ (h2.2 h0)
    · have e2 : τ.2 ≠ 0 := by rw [← ha.1]; exact e
      have : ∀ (m : Nat) (ρ : Int × Int), ρ.2 ≠ 0 → (rdN f m ρ).2 = ρ := by
        intro m
        induction m with
        | zero => intro ρ _; rfl
        | succ m ih => intro ρ hρ; rw [rdN]; simp only; rw [he ρ hρ]; exact ih ρ hρ
      have h5 := this (n + 1) σ e
      rw [rfN, if_pos e2]
      exact ⟨by rw [h5]; exact ha, fun h0 => by rw [h5] at h0; exact absurd h0 e⟩
theorem rdI_stay (s : List UInt8) (σ : Int × Int) (h : σ.2 ≠ 0) : (rdI s σ).2 = σ := (rdI_ok.err s s σ h).2
theorem rdB_stay (s : List UInt8) (σ : Int × Int) (h : σ.2 ≠ 0) : (rdB s σ).2 = σ := (rdB_ok.err s s σ h).2
theorem al_L {α : Type} (s : List UInt8) (most : Int) (hm : 0 ≤ most) {f g : Int × Int → α × (Int × Int)} (he : ∀ σ : Int × Int, σ.2 ≠ 0 → (f σ).2 = σ) (h : ∀ σ τ, Al s σ τ → Aq s (f σ) (g τ)) {σ τ : Int × Int} (ha : Al s σ τ) :
    Aq s (rdL s most f σ) (rfL s most g τ) := by
  have h1 := al_I s ha
  unfold rdL rfL rfC
  by_cases e : (rdI s σ).2.2 = 0
  · have e2 : ¬ (rfI s τ).2.2 ≠ 0 := by rw [← h1.1.1]; simp [e]
    rw [if_neg e2, ← h1.2 e]
    by_cases g0 : inB (rdI s σ).1 0 most = true
    · rw [if_pos g0, if_pos g0, ← h1.2 e]
      exact al_N s he h _ _ _ h1.1
    · rw [if_neg g0, if_neg g0]
      exact ⟨⟨rfl, fun h => by simp at h⟩, fun h => by simp at h⟩
  · have e2 : (rfI s τ).2.2 ≠ 0 := by rw [← h1.1.1]; exact e
    rw [if_pos e2]
    have z : (rdI s σ).1 = 0 := by
      unfold rdI at e ⊢
      split
      · rename_i e0
        rw [if_pos e0] at e
        obtain ⟨_, k, hk, hl⟩ := ha.2 e0
        rw [hk] at e ⊢
        rw [refused_int s k hl e]
      · rfl
    rw [z, if_pos (by simp [inB]; omega)]
    exact ⟨h1.1, fun h0 => absurd h0 e⟩
theorem rdS_stay (s : List UInt8) (σ : Int × Int) (h : σ.2 ≠ 0) : (rdS s σ).2 = σ := (rdS_ok.err s s σ h).2
theorem rdL_stay (s : List UInt8) (σ : Int × Int) (h : σ.2 ≠ 0) : (rdL s 64 (rdI s) σ).2 = σ := ((rdI_ok.many 64 (by decide)).err s s σ h).2
theorem al_B (s : List UInt8) {σ τ : Int × Int} (h : Al s σ τ) : Aq s (rdB s σ) (rfB s τ) := by
  have h1 := al_I s h
  have h2 := al_I s h1.1
  have h3 := al_S s h2.1
  have h4 := al_I s h3.1
  have h5 := al_I s h4.1
  have h6 := al_I s h5.1
  have h7 := al_L s 64 (by decide) (rdI_stay s) (fun σ τ h => al_I s h) h6.1
  have h8 := al_I s h7.1
  have h9 := al_I s h8.1
  refine ⟨h9.1, fun e9 => ?_⟩
  have back : ∀ {α : Type} (f : Int × Int → α × (Int × Int)) (ρ : Int × Int), (ρ.2 ≠ 0 → (f ρ).2 = ρ) → (f ρ).2.2 = 0 → ρ.2 = 0 := fun f ρ hf h0 => by
    by_cases e : ρ.2 = 0
    · exact e
    · rw [hf e] at h0; exact h0
  have e8 := back (rdI s) _ (rdI_stay s _) e9
  have e7 := back (rdI s) _ (rdI_stay s _) e8
  have e6 := back (rdL s 64 (rdI s)) _ (rdL_stay s _) e7
  have e5 := back (rdI s) _ (rdI_stay s _) e6
  have e4 := back (rdI s) _ (rdI_stay s _) e5
  have e3 := back (rdI s) _ (rdI_stay s _) e4
  have e2 := back (rdS s) _ (rdS_stay s _) e3
  have e1 := back (rdI s) _ (rdI_stay s _) e2
  unfold rdB rfB
  simp only
  rw [h1.2 e1, h2.2 e2, h3.2 e3, h4.2 e4, h5.2 e5, h6.2 e6, h7.2 e7, h8.2 e8, h9.2 e9]
theorem rfD_eq (s : List UInt8) : rfD s = decP s := by
  have h := al_L s 24 (by decide) (rdB_stay s) (fun σ τ h => al_B s h) (σ := (0, 0)) (τ := (0, 0)) ⟨rfl, fun _ => ⟨rfl, 0, rfl, Nat.zero_le _⟩⟩
  have h : Aq s (rdL s 24 (rdB s) (0, 0)) (rfL s 24 (rfB s) (0, 0)) := h
  unfold rfD decP
  generalize rdL s 24 (rdB s) (0, 0) = x at *
  generalize rfL s 24 (rfB s) (0, 0) = y at *
  simp only
  by_cases e : x.2.2 = 0
  · obtain ⟨e1, k, hk, hl⟩ := h.1.2 e
    have e2 : x = y := Prod.ext (h.2 e) e1
    subst e2
    have z : ¬ (x.2.2 ≠ 0) := by simp [e]
    rw [if_neg z, if_neg z]
    by_cases g : x.2.1 < s.length
    · rw [if_pos (by omega), if_pos g]
    · rw [if_neg (by omega), if_neg g]
  · have z : y.2.2 ≠ 0 := by rw [← h.1.1]; exact e
    rw [if_pos e, if_pos z, h.1.1]
end Go.Proofs.YtdhioalfgogcdaaGreatDoor
