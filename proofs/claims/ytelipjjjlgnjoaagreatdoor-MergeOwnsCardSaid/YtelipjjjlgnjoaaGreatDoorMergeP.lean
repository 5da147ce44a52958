/- Merging as plain data. -/
import Derived.Test.YtelipjjjlgnjoaaGreatDoorBlkP0
namespace Go.Proofs.YtelipjjjlgnjoaaGreatDoor
/- positions -/
def idxI : List Int → Int → Option Nat
  | [], _ => none
  | x :: l, i => if x = i then some 0 else (idxI l i).map (· + 1)
theorem idxI_none {l : List Int} {i : Int} : idxI l i = none ↔ i ∉ l := by
  induction l with
  | nil => simp [idxI]
  | cons x l ih =>
    unfold idxI
    by_cases h : x = i
    · simp [h]
    · rw [if_neg h]; simp [ih]; exact fun _ => fun e => h e.symm
theorem idxI_some {l : List Int} {i : Int} {k : Nat} (h : idxI l i = some k) : l[k]? = some i := by
  induction l generalizing k with
  | nil => simp [idxI] at h
  | cons x l ih =>
    unfold idxI at h
    by_cases hx : x = i
    · rw [if_pos hx] at h; cases h; simp [hx]
    · rw [if_neg hx] at h
      simp only [Option.map_eq_some_iff] at h
      obtain ⟨j, hj, rfl⟩ := h
      simpa using ih hj
theorem idxI_first {l : List Int} {i : Int} {k : Nat} (h : idxI l i = some k) : ∀ j, j < k → l[j]? ≠ some i := by
  induction l generalizing k with
  | nil => simp [idxI] at h
  | cons x l ih =>
    unfold idxI at h
    by_cases hx : x = i
    · rw [if_pos hx] at h; cases h; intro j hj; omega
    · rw [if_neg hx] at h
      simp only [Option.map_eq_some_iff] at h
      obtain ⟨m, hm, rfl⟩ := h
      intro j hj
      cases j with
      | zero => simpa using hx
      | succ j => simpa using ih hm j (by omega)
theorem idxI_of {l : List Int} {i : Int} {k : Nat} (h : l[k]? = some i) (hf : ∀ j, j < k → l[j]? ≠ some i) : idxI l i = some k := by
  cases e : idxI l i with
  | none => exact absurd (List.mem_of_getElem? h) (idxI_none.1 e)
  | some m =>
    have h1 := idxI_some e
    have h2 := idxI_first e
    rcases Nat.lt_trichotomy m k with q | q | q
    · exact absurd h1 (hf m q)
    · rw [q]
    · exact absurd h (h2 k q)
theorem nodup_at {l : List Int} (hn : l.Nodup) {i : Int} {j k : Nat} (h : l[j]? = some i) (h2 : l[k]? = some i) : j = k := by
  obtain ⟨hj, e1⟩ := List.getElem?_eq_some_iff.1 h
  obtain ⟨hk, e2⟩ := List.getElem?_eq_some_iff.1 h2
  exact (List.getElem_inj hn).1 (e1.trans e2.symm)
theorem idxI_nodup {l : List Int} (hn : l.Nodup) {i : Int} {k : Nat} (h : l[k]? = some i) : idxI l i = some k :=
  idxI_of h (fun j hj e => by have := nodup_at hn h e; omega)
theorem idxI_lt {l : List Int} {i : Int} {k : Nat} (h : idxI l i = some k) : k < l.length := (List.getElem?_eq_some_iff.1 (idxI_some h)).1
theorem idxI_mem {l : List Int} {i : Int} {k : Nat} (h : idxI l i = some k) : i ∈ l := List.mem_of_getElem? (idxI_some h)
theorem idxI_isSome {l : List Int} {i : Int} : (idxI l i).isSome = true ↔ i ∈ l := by
  cases e : idxI l i with
  | none => simp [idxI_none.1 e]
  | some k => simp [idxI_mem e]
/- before one another -/
theorem sub2_of {o : List Int} {x y : Int} {j k : Nat} (hj : o[j]? = some x) (hk : o[k]? = some y) (h : j < k) : [x, y].Sublist o := by
  induction o generalizing j k with
  | nil => simp at hj
  | cons z o ih =>
    cases k with
    | zero => omega
    | succ k =>
      cases j with
      | zero =>
        simp at hj hk
        subst hj
        exact List.Sublist.cons_cons _ (List.singleton_sublist.2 (List.mem_of_getElem? hk))
      | succ j =>
        simp at hj hk
        exact (ih hj hk (by omega)).cons _
theorem sub2_at {o : List Int} {x y : Int} (h : [x, y].Sublist o) : ∃ j k : Nat, j < k ∧ o[j]? = some x ∧ o[k]? = some y := by
  induction o with
  | nil => simp at h
  | cons z o ih =>
    cases h with
    | cons _ h =>
      obtain ⟨j, k, h1, h2, h3⟩ := ih h
      exact ⟨j + 1, k + 1, by omega, by simpa using h2, by simpa using h3⟩
    | cons_cons _ h =>
      have hm := List.singleton_sublist.1 h
      obtain ⟨k, hk⟩ := List.getElem?_of_mem hm
      exact ⟨0, k + 1, by omega, by simp, by simpa using hk⟩
theorem sub2_idx {o : List Int} (hn : o.Nodup) {x y : Int} {j k : Nat} (hj : idxI o x = some j) (hk : idxI o y = some k) : [x, y].Sublist o ↔ j < k := by
  constructor
  · intro h
    obtain ⟨j', k', h1, h2, h3⟩ := sub2_at h
    rw [idxI_nodup hn h2] at hj
    rw [idxI_nodup hn h3] at hk
    cases hj; cases hk; exact h1
  · intro h
    exact sub2_of (idxI_some hj) (idxI_some hk) h
theorem sub2_asymm {o : List Int} (hn : o.Nodup) {x y : Int} (h : [x, y].Sublist o) (h2 : [y, x].Sublist o) : False := by
  obtain ⟨j, k, a, b, c⟩ := sub2_at h
  obtain ⟨j', k', a', b', c'⟩ := sub2_at h2
  have := nodup_at hn b c'
  have := nodup_at hn c b'
  omega
theorem sub2_mem {o : List Int} {x y : Int} (h : [x, y].Sublist o) : x ∈ o ∧ y ∈ o := ⟨h.subset (by simp), h.subset (by simp)⟩
theorem sub2_append {p q : List Int} {x y : Int} (h : x ∈ p) (h2 : y ∈ q) : [x, y].Sublist (p ++ q) :=
  List.Sublist.append (List.singleton_sublist.2 h) (List.singleton_sublist.2 h2)
/-- o mkeeps the order of X. -/
def KS (o X : List Int) : Prop := ∀ x y, [x, y].Sublist X → x ∈ o → y ∈ o → [x, y].Sublist o
theorem KS.symm {o X : List Int} (ho : o.Nodup) (h : KS o X) : KS X o := by
  intro x y hs h1 h2
  obtain ⟨j, hj⟩ := List.getElem?_of_mem h1
  obtain ⟨k, hk⟩ := List.getElem?_of_mem h2
  rcases Nat.lt_trichotomy j k with q | q | q
  · exact sub2_of hj hk q
  · subst q
    rw [hj] at hk; cases hk
    obtain ⟨j', k', a, b, c⟩ := sub2_at hs
    have := nodup_at ho b c
    omega
  · have := h y x (sub2_of hk hj q) (sub2_mem hs).2 (sub2_mem hs).1
    exact (sub2_asymm ho hs this).elim
theorem eq_of_KS {o X : List Int} (ho : o.Nodup) (hx : X.Nodup) (h : KS o X) (hm : ∀ i, i ∈ o ↔ i ∈ X) : o = X := by
  refine List.Perm.eq_of_pairwise (le := fun x y => [x, y].Sublist o) (fun x y _ _ h1 h2 => (sub2_asymm ho h1 h2).elim) ?_ ?_ ((List.perm_ext_iff_of_nodup ho hx).2 hm)
  · exact List.pairwise_of_forall_sublist (fun h => h)
  · exact List.pairwise_of_forall_sublist (fun {a b} hs => h a b hs ((hm a).2 (sub2_mem hs).1) ((hm b).2 (sub2_mem hs).2))
/- moved -/
def mvS (o : List Int) (s : Bool × Int) (x : Int) : Bool × Int :=
  if s.1 = true then s else match idxI o x with | none => s | some k => if (k : Int) < s.2 then (true, s.2) else (false, (k : Int))
theorem mvS_true (o X : List Int) (s : Bool × Int) (h : s.1 = true) : X.foldl (mvS o) s = s := by
  induction X with
  | nil => rfl
  | cons x X ih =>
    rw [List.foldl_cons]
    have : mvS o s x = s := by unfold mvS; rw [if_pos h]
    rw [this, ih]
def KO (o X : List Int) : Prop := X.Pairwise (fun x y => ∀ j k, idxI o x = some j → idxI o y = some k → j ≤ k)
theorem mv_iff (o X : List Int) (s : Int) : (X.foldl (mvS o) (false, s)).1 = false ↔ (∀ x ∈ X, ∀ k, idxI o x = some k → s ≤ k) ∧ KO o X := by
  induction X generalizing s with
  | nil => simp [KO]
  | cons x X ih =>
    rw [List.foldl_cons]
    unfold KO
    rw [List.pairwise_cons]
    cases e : idxI o x with
    | none =>
      have : mvS o (false, s) x = (false, s) := by unfold mvS; rw [if_neg (by simp), e]
      rw [this, ih]
      constructor
      · rintro ⟨h1, h2⟩
        refine ⟨fun y hy k hk => ?_, (fun y hy j k hj => by cases hj), h2⟩
        rcases List.mem_cons.1 hy with rfl | hy
        · rw [e] at hk; cases hk
        · exact h1 y hy k hk
      · rintro ⟨h1, _, h2⟩
        exact ⟨fun y hy => h1 y (List.mem_cons_of_mem _ hy), h2⟩
    | some k =>
      by_cases hlt : (k : Int) < s
      · have : mvS o (false, s) x = (true, s) := by unfold mvS; rw [if_neg (by simp), e]; simp [hlt]
        rw [this, mvS_true _ _ _ rfl]
        constructor
        · intro h; simp at h
        · rintro ⟨h1, _⟩
          have := h1 x List.mem_cons_self k e
          omega
      · have : mvS o (false, s) x = (false, (k : Int)) := by unfold mvS; rw [if_neg (by simp), e]; simp [hlt]
        rw [this, ih]
        constructor
        · rintro ⟨h1, h2⟩
          refine ⟨fun y hy m hm => ?_, fun y hy j m hj hm => ?_, h2⟩
          · rcases List.mem_cons.1 hy with rfl | hy
            · rw [e] at hm; cases hm; omega
            · have := h1 y hy m hm; omega
          · cases hj
            have := h1 y hy m hm
            omega
        · rintro ⟨h1, h3, h2⟩
          exact ⟨fun y hy m hm => by have := h3 y hy k m rfl hm; omega, h2⟩
def movI (o X : List Int) : Bool := (X.foldl (mvS o) (false, 0)).1
theorem movI_iff (o X : List Int) : movI o X = false ↔ KO o X := by
  unfold movI
  rw [mv_iff]
  exact ⟨fun h => h.2, fun h => ⟨fun _ _ k _ => by omega, h⟩⟩
theorem movI_ref (o X : List Int) : (X.foldl (mvS o) (false, -1)).1 = movI o X := by
  have h1 := mv_iff o X (-1)
  have h2 := movI_iff o X
  have h3 : (X.foldl (mvS o) (false, -1)).1 = false ↔ movI o X = false := by
    rw [h1, h2]
    exact ⟨fun h => h.2, fun h => ⟨fun _ _ k _ => by omega, h⟩⟩
  cases e1 : (X.foldl (mvS o) (false, -1)).1 <;> cases e2 : movI o X
  · rfl
  · rw [h3.1 e1] at e2; cases e2
  · rw [h3.2 e2] at e1; cases e1
  · rfl
theorem KO_iff {o X : List Int} (ho : o.Nodup) (hx : X.Nodup) : KO o X ↔ KS o X := by
  unfold KO
  rw [List.pairwise_iff_forall_sublist]
  constructor
  · intro h x y hs h1 h2
    cases e1 : idxI o x with
    | none => exact absurd h1 (idxI_none.1 e1)
    | some j =>
      cases e2 : idxI o y with
      | none => exact absurd h2 (idxI_none.1 e2)
      | some k =>
        have h3 := h hs j k e1 e2
        rw [sub2_idx ho e1 e2]
        rcases Nat.lt_or_eq_of_le h3 with q | q
        · exact q
        · subst q
          have h4 := idxI_some e1
          rw [idxI_some e2] at h4
          cases h4
          obtain ⟨j', k', a, b, c⟩ := sub2_at hs
          have := nodup_at hx b c
          omega
  · intro h x y hs j k e1 e2
    have := h x y hs (idxI_mem e1) (idxI_mem e2)
    rw [sub2_idx ho e1 e2] at this
    omega
theorem mov_KS {o X : List Int} (ho : o.Nodup) (hx : X.Nodup) : movI o X = false ↔ KS o X := by rw [movI_iff, KO_iff ho hx]
/- what a merge contains -/
def bids (l : List Blk) : List Int := l.map Blk.id
def fnd (l : List Blk) (i : Int) : Option Blk := l.find? (fun b => b.id == i)
theorem fnd_id {l : List Blk} {i : Int} {b : Blk} (h : fnd l i = some b) : b.id = i := by
  have := List.find?_some h; simpa using this
theorem fnd_mem {l : List Blk} {i : Int} {b : Blk} (h : fnd l i = some b) : b ∈ l := List.mem_of_find?_eq_some h
theorem fnd_none {l : List Blk} {i : Int} : fnd l i = none ↔ i ∉ bids l := by
  unfold fnd bids
  rw [List.find?_eq_none]
  simp
theorem fnd_of {l : List Blk} {i : Int} {k : Nat} {b : Blk} (hn : (bids l).Nodup) (h : l[k]? = some b) (hi : b.id = i) : fnd l i = some b := by
  cases e : fnd l i with
  | none =>
    refine absurd ?_ (fnd_none.1 e)
    rw [← hi]
    exact List.mem_map.2 ⟨b, List.mem_of_getElem? h, rfl⟩
  | some c =>
    obtain ⟨j, hj⟩ := List.getElem?_of_mem (fnd_mem e)
    have h1 : (bids l)[k]? = some i := by unfold bids; rw [List.getElem?_map, h, ← hi]; rfl
    have h2 : (bids l)[j]? = some i := by unfold bids; rw [List.getElem?_map, hj]; simp [fnd_id e]
    have := nodup_at hn h1 h2
    subst this
    rw [h] at hj; cases hj; rfl
theorem fnd_isSome {l : List Blk} {i : Int} : (fnd l i).isSome = true ↔ i ∈ bids l := by
  cases e : fnd l i with
  | none => simp [fnd_none.1 e]
  | some b => simp; exact List.mem_map.2 ⟨b, fnd_mem e, fnd_id e⟩
def eqO : Option Blk → Option Blk → Bool
  | none, none => true
  | some a, some b => sB a b
  | _, _ => false
theorem eqO_iff (x y : Option Blk) : eqO x y = true ↔ x = y := by
  cases x <;> cases y <;> simp [eqO, sB_iff]
def chs (x y z : Option Blk) : Option Blk × Bool :=
  if eqO y x = true then (z, false) else if (eqO z x || eqO z y) = true then (y, false) else if z.isNone = true then (y, true) else (z, true)
theorem chs_cases (x y z : Option Blk) : (y = x ∧ chs x y z = (z, false)) ∨ (y ≠ x ∧ (z = x ∨ z = y) ∧ chs x y z = (y, false)) ∨ (y ≠ x ∧ z ≠ x ∧ z ≠ y ∧ z = none ∧ chs x y z = (y, true)) ∨ (y ≠ x ∧ z ≠ x ∧ z ≠ y ∧ z ≠ none ∧ chs x y z = (z, true)) := by
  unfold chs
  by_cases h1 : eqO y x = true
  · exact .inl ⟨(eqO_iff _ _).1 h1, by rw [if_pos h1]⟩
  · rw [if_neg h1]
    have n1 : y ≠ x := fun e => h1 ((eqO_iff _ _).2 e)
    by_cases h2 : (eqO z x || eqO z y) = true
    · refine .inr (.inl ⟨n1, ?_, by rw [if_pos h2]⟩)
      rw [Bool.or_eq_true, eqO_iff, eqO_iff] at h2
      exact h2
    · rw [if_neg h2]
      rw [Bool.or_eq_true, eqO_iff, eqO_iff] at h2
      have n2 : z ≠ x := fun e => h2 (.inl e)
      have n3 : z ≠ y := fun e => h2 (.inr e)
      by_cases h3 : z.isNone = true
      · refine .inr (.inr (.inl ⟨n1, n2, n3, by simpa using h3, by rw [if_pos h3]⟩))
      · refine .inr (.inr (.inr ⟨n1, n2, n3, by simpa using h3, by rw [if_neg h3]⟩))
def mrg (p a b : List Blk) (i : Int) : Option Blk := (chs (fnd p i) (fnd a i) (fnd b i)).1
def cfl (p a b : List Blk) (i : Int) : Bool := (chs (fnd p i) (fnd a i) (fnd b i)).2
theorem mrg_of {p a b : List Blk} {i : Int} {x : Blk} (h : mrg p a b i = some x) : fnd a i = some x ∨ fnd b i = some x := by
  unfold mrg at h
  rcases chs_cases (fnd p i) (fnd a i) (fnd b i) with ⟨_, e⟩ | ⟨_, _, e⟩ | ⟨_, _, _, _, e⟩ | ⟨_, _, _, _, e⟩ <;> rw [e] at h
  · exact .inr h
  · exact .inl h
  · exact .inl h
  · exact .inr h
theorem mrg_id {p a b : List Blk} {i : Int} {x : Blk} (h : mrg p a b i = some x) : x.id = i := by
  rcases mrg_of h with h | h <;> exact fnd_id h
theorem mrg_mem {p a b : List Blk} {i : Int} (h : (mrg p a b i).isSome = true) : i ∈ bids a ∨ i ∈ bids b := by
  obtain ⟨x, hx⟩ := Option.isSome_iff_exists.1 h
  rcases mrg_of hx with h | h
  · exact .inl (fnd_isSome.1 (by rw [h]; rfl))
  · exact .inr (fnd_isSome.1 (by rw [h]; rfl))
theorem vL_nodup {l : List Blk} (h : vL l = true) : (bids l).Nodup := by
  simp only [vL, Bool.and_eq_true, decide_eq_true_eq] at h; exact h.2.2
theorem vL_all {l : List Blk} (h : vL l = true) : ∀ b ∈ l, vB b = true := by
  simp only [vL, Bool.and_eq_true, decide_eq_true_eq, List.all_eq_true] at h; exact h.2.1
theorem vL_len {l : List Blk} (h : vL l = true) : l.length ≤ 24 := by
  simp only [vL, Bool.and_eq_true, decide_eq_true_eq] at h; exact h.1
theorem vL_mk {l : List Blk} (h1 : l.length ≤ 24) (h2 : ∀ b ∈ l, vB b = true) (h3 : (bids l).Nodup) : vL l = true := by
  simp only [vL, Bool.and_eq_true, decide_eq_true_eq, List.all_eq_true]; exact ⟨h1, h2, h3⟩
theorem vB_id {b : Blk} (h : vB b = true) : 1 ≤ b.id ∧ b.id ≤ 1000 := by
  simp only [vB, inB, Bool.and_eq_true, decide_eq_true_eq] at h; exact h.2.1
theorem ids_bd {l : List Blk} (h : vL l = true) {i : Int} (hi : i ∈ bids l) : 1 ≤ i ∧ i ≤ 1000 := by
  obtain ⟨b, hb, rfl⟩ := List.mem_map.1 hi
  exact vB_id (vL_all h b hb)
def iota : List Int := (List.range 1000).map (fun k : Nat => (k : Int) + 1)
theorem mem_iota {i : Int} : i ∈ iota ↔ 1 ≤ i ∧ i ≤ 1000 := by
  unfold iota
  rw [List.mem_map]
  constructor
  · rintro ⟨k, hk, rfl⟩
    have := List.mem_range.1 hk
    omega
  · rintro ⟨h1, h2⟩
    exact ⟨(i - 1).toNat, List.mem_range.2 (by omega), by omega⟩
theorem iota_lt : iota.Pairwise (· < ·) := by
  unfold iota
  rw [List.pairwise_map]
  exact List.pairwise_lt_range.imp (fun h => by omega)
theorem nodup_of_lt {l : List Int} (h : l.Pairwise (· < ·)) : l.Nodup := h.imp (fun h => by omega)
theorem iota_nodup : iota.Nodup := nodup_of_lt iota_lt
def hasM (p a b : List Blk) (i : Int) : Bool := (mrg p a b i).isSome
def mcount (p a b : List Blk) : Nat := (iota.filter (hasM p a b)).length
def mconf (p a b : List Blk) : List Int := iota.filter (cfl p a b)
/- the order -/
def insA (o : List Int) (n : Nat) (i : Int) : List Int := o.take n ++ i :: o.drop n
def ordS (m : Int → Bool) (s : List Int × Nat) (i : Int) : List Int × Nat :=
  match idxI s.1 i with
  | some k => (s.1, k + 1)
  | none => if m i = true then (insA s.1 s.2 i, s.2 + 1) else s
def ordL (m : Int → Bool) (lead follow : List Int) : List Int := (follow.foldl (ordS m) (lead.filter m, 0)).1
theorem insA_mem {o : List Int} {n : Nat} {i j : Int} : j ∈ insA o n i ↔ j = i ∨ j ∈ o := by
  unfold insA
  rw [List.mem_append, List.mem_cons]
  constructor
  · rintro (h | h | h)
    · exact .inr (List.mem_of_mem_take h)
    · exact .inl h
    · exact .inr (List.mem_of_mem_drop h)
  · rintro (h | h)
    · exact .inr (.inl h)
    · rw [← List.take_append_drop n o, List.mem_append] at h
      rcases h with h | h
      · exact .inl h
      · exact .inr (.inr h)
theorem insA_sub {o : List Int} {n : Nat} {i : Int} : o.Sublist (insA o n i) := by
  unfold insA
  conv => lhs; rw [← List.take_append_drop n o]
  exact List.Sublist.append (List.Sublist.refl _) (List.sublist_cons_self _ _)
theorem insA_nodup {o : List Int} {n : Nat} {i : Int} (ho : o.Nodup) (hi : i ∉ o) : (insA o n i).Nodup := by
  have h1 : (insA o n i).Perm (i :: o) := by
    unfold insA
    refine List.perm_middle.trans ?_
    rw [List.take_append_drop]
  rw [h1.nodup_iff, List.nodup_cons]
  exact ⟨hi, ho⟩
structure OrdI (m : Int → Bool) (L F1 : List Int) (s : List Int × Nat) : Prop where
  nodup : s.1.Nodup
  mem : ∀ i, i ∈ s.1 ↔ m i = true ∧ (i ∈ L ∨ i ∈ F1)
  lead : KS s.1 L
  le : s.2 ≤ s.1.length
theorem OrdI.start (m : Int → Bool) {L : List Int} (hL : L.Nodup) : OrdI m L [] (L.filter m, 0) where
  nodup := hL.filter _
  mem i := by simp [List.mem_filter]; exact And.comm
  lead x y hs h1 h2 := by
    have := hs.filter m
    have e : [x, y].filter m = [x, y] := by simp [(List.mem_filter.1 h1).2, (List.mem_filter.1 h2).2]
    rw [e] at this
    exact this
  le := Nat.zero_le _
theorem OrdI.step {m : Int → Bool} {L F1 : List Int} {s : List Int × Nat} (h : OrdI m L F1 s) (i : Int) : OrdI m L (F1 ++ [i]) (ordS m s i) := by
  unfold ordS
  cases e : idxI s.1 i with
  | some k =>
    have hi := idxI_mem e
    refine ⟨h.nodup, fun j => ?_, h.lead, idxI_lt e⟩
    rw [h.mem, List.mem_append, List.mem_singleton]
    constructor
    · rintro ⟨a, b | b⟩
      · exact ⟨a, .inl b⟩
      · exact ⟨a, .inr (.inl b)⟩
    · rintro ⟨a, b | b | b⟩
      · exact ⟨a, .inl b⟩
      · exact ⟨a, .inr b⟩
      · subst b; exact (h.mem j).1 hi
  | none =>
    have hi := idxI_none.1 e
    dsimp only
    by_cases hm : m i = true
    · rw [if_pos hm]
      have hiL : i ∉ L := fun q => hi ((h.mem i).2 ⟨hm, .inl q⟩)
      refine ⟨insA_nodup h.nodup hi, fun j => ?_, fun x y hs h1 h2 => ?_, ?_⟩
      · rw [insA_mem, h.mem, List.mem_append, List.mem_singleton]
        constructor
        · rintro (rfl | ⟨a, b | b⟩)
          · exact ⟨hm, .inr (.inr rfl)⟩
          · exact ⟨a, .inl b⟩
          · exact ⟨a, .inr (.inl b)⟩
        · rintro ⟨a, b | b | b⟩
          · exact .inr ⟨a, .inl b⟩
          · exact .inr ⟨a, .inr b⟩
          · exact .inl b
      · have hx := (sub2_mem hs).1
        have hy := (sub2_mem hs).2
        rw [insA_mem] at h1 h2
        have h1' : x ∈ s.1 := h1.resolve_left (fun q => hiL (q ▸ hx))
        have h2' : y ∈ s.1 := h2.resolve_left (fun q => hiL (q ▸ hy))
        exact (h.lead x y hs h1' h2').trans insA_sub
      · have := h.le
        unfold insA
        simp
        omega
    · rw [if_neg hm]
      refine ⟨h.nodup, fun j => ?_, h.lead, h.le⟩
      rw [h.mem, List.mem_append, List.mem_singleton]
      constructor
      · rintro ⟨a, b | b⟩
        · exact ⟨a, .inl b⟩
        · exact ⟨a, .inr (.inl b)⟩
      · rintro ⟨a, b | b | b⟩
        · exact ⟨a, .inl b⟩
        · exact ⟨a, .inr b⟩
        · subst b; exact absurd a hm
theorem OrdI.all {m : Int → Bool} {L : List Int} : ∀ (F F1 : List Int) (s : List Int × Nat), OrdI m L F1 s → OrdI m L (F1 ++ F) (F.foldl (ordS m) s)
  | [], F1, s, h => by simpa using h
  | i :: F, F1, s, h => by
    have := OrdI.all F (F1 ++ [i]) _ (h.step i)
    simpa using this
theorem ordL_inv (m : Int → Bool) {L : List Int} (hL : L.Nodup) (F : List Int) : OrdI m L F (F.foldl (ordS m) (L.filter m, 0)) := by
  have := OrdI.all F [] _ (OrdI.start m hL)
  simpa using this
/-- Where the orders of both agree, the following one is kept. -/
structure OrdJ (s : List Int × Nat) (F1 F2 : List Int) : Prop where
  keep : KS s.1 F1
  low : ∀ x ∈ F1, x ∈ s.1 → x ∈ s.1.take s.2
  high : ∀ x ∈ F2, x ∈ s.1 → x ∈ s.1.drop s.2
theorem sub2_snoc {F : List Int} {x y i : Int} (h : [x, y].Sublist (F ++ [i])) : [x, y].Sublist F ∨ (x ∈ F ∧ y = i) := by
  obtain ⟨j, k, h1, h2, h3⟩ := sub2_at h
  have hk := (List.getElem?_eq_some_iff.1 h3).1
  simp at hk
  have hj : (F ++ [i])[j]? = F[j]? := List.getElem?_append_left (by omega)
  rw [hj] at h2
  by_cases e : k < F.length
  · rw [List.getElem?_append_left e] at h3
    exact .inl (sub2_of h2 h3 h1)
  · obtain rfl : k = F.length := by omega
    simp at h3
    exact .inr ⟨List.mem_of_getElem? h2, h3.symm⟩
theorem mem_take_at {o : List Int} {i : Int} {k n : Nat} (h : o[k]? = some i) (hk : k < n) : i ∈ o.take n := by
  refine List.mem_of_getElem? (i := k) ?_
  rw [List.getElem?_take, if_pos hk]; exact h
theorem mem_drop_at {o : List Int} {i : Int} {k n : Nat} (h : o[k]? = some i) (hk : n ≤ k) : i ∈ o.drop n := by
  refine List.mem_of_getElem? (i := k - n) ?_
  rw [List.getElem?_drop, show n + (k - n) = k by omega]; exact h
theorem take_sub2 {o : List Int} {n : Nat} {x y : Int} (h1 : x ∈ o.take n) (h2 : y ∈ o.drop n) : [x, y].Sublist o := by
  have := sub2_append h1 h2
  rwa [List.take_append_drop] at this
theorem OrdJ.step {m : Int → Bool} {L F1 F2 : List Int} {s : List Int × Nat} {i : Int} (hI : OrdI m L F1 s) (h : OrdJ s F1 (i :: F2)) (hF : (F1 ++ i :: F2).Nodup) (hA : KS L (F1 ++ i :: F2)) : OrdJ (ordS m s i) (F1 ++ [i]) F2 := by
  have hiF1 : i ∉ F1 := by
    intro q
    rw [List.nodup_append] at hF
    exact hF.2.2 i q i List.mem_cons_self rfl
  unfold ordS
  cases e : idxI s.1 i with
  | some k =>
    have hi := idxI_mem e
    have hk := idxI_some e
    have hd := h.high i List.mem_cons_self hi
    have hnk : s.2 ≤ k := by
      obtain ⟨j, hj⟩ := List.getElem?_of_mem hd
      rw [List.getElem?_drop] at hj
      have := nodup_at hI.nodup hj hk
      omega
    dsimp only
    refine ⟨fun x y hs h1 h2 => ?_, fun x hx h1 => ?_, fun x hx h1 => ?_⟩
    · rcases sub2_snoc hs with q | ⟨q, rfl⟩
      · exact h.keep x y q h1 h2
      · exact take_sub2 (h.low x q h1) hd
    · rcases List.mem_append.1 hx with q | q
      · have := h.low x q h1
        obtain ⟨j, hj⟩ := List.getElem?_of_mem this
        have hj2 := (List.getElem?_eq_some_iff.1 hj).1
        rw [List.length_take] at hj2
        rw [List.getElem?_take, if_pos (by omega)] at hj
        exact mem_take_at hj (by show j < k + 1; omega)
      · rw [List.mem_singleton] at q
        subst q
        exact mem_take_at hk (Nat.lt_succ_self k)
    · have hL1 : i ∈ L := ((hI.mem i).1 hi).2.resolve_right hiF1
      have hxF1 : x ∉ F1 := by
        intro q
        rw [List.nodup_append] at hF
        exact hF.2.2 x q x (List.mem_cons_of_mem _ hx) rfl
      have hL2 : x ∈ L := ((hI.mem x).1 h1).2.resolve_right hxF1
      have hs : [i, x].Sublist (F1 ++ i :: F2) := by
        have : [i, x].Sublist (i :: F2) := List.Sublist.cons_cons _ (List.singleton_sublist.2 hx)
        exact this.trans (List.sublist_append_right _ _)
      have := hI.lead i x (hA i x hs hL1 hL2) hi h1
      obtain ⟨j, j2, a, b, c⟩ := sub2_at this
      have := nodup_at hI.nodup b hk
      subst this
      exact mem_drop_at c a
  | none =>
    have hi := idxI_none.1 e
    dsimp only
    by_cases hm : m i = true
    · rw [if_pos hm]
      have ht : (insA s.1 s.2 i).take (s.2 + 1) = s.1.take s.2 ++ [i] := by
        unfold insA
        have := hI.le
        rw [List.take_append, List.length_take, Nat.min_eq_left this, List.take_of_length_le (by rw [List.length_take]; omega), Nat.add_sub_cancel_left]
        simp
      have hdr : (insA s.1 s.2 i).drop (s.2 + 1) = s.1.drop s.2 := by
        unfold insA
        have := hI.le
        rw [List.drop_append, List.length_take, Nat.min_eq_left this, List.drop_of_length_le (by rw [List.length_take]; omega), Nat.add_sub_cancel_left]
        simp
      refine ⟨fun x y hs h1 h2 => ?_, fun x hx h1 => ?_, fun x hx h1 => ?_⟩
      · dsimp only at h1 h2 ⊢
        rcases sub2_snoc hs with q | ⟨q, rfl⟩
        · have hx := (sub2_mem q).1
          have hy := (sub2_mem q).2
          rw [insA_mem] at h1 h2
          exact (h.keep x y q (h1.resolve_left (fun r => hiF1 (r ▸ hx))) (h2.resolve_left (fun r => hiF1 (r ▸ hy)))).trans insA_sub
        · rw [insA_mem] at h1
          have h1' := h1.resolve_left (fun r => hiF1 (r ▸ q))
          have h3 := h.low x q h1'
          have h4 : [x, y].Sublist (s.1.take s.2 ++ [y]) := sub2_append h3 (by simp)
          rw [← ht] at h4
          exact h4.trans (List.take_sublist _ _)
      · dsimp only at h1 ⊢
        rw [ht]
        rcases List.mem_append.1 hx with q | q
        · rw [insA_mem] at h1
          exact List.mem_append_left _ (h.low x q (h1.resolve_left (fun r => hiF1 (r ▸ q))))
        · rw [List.mem_singleton] at q
          subst q; simp
      · dsimp only at h1 ⊢
        rw [hdr]
        rw [insA_mem] at h1
        refine h.high x (List.mem_cons_of_mem _ hx) (h1.resolve_left (fun r => ?_))
        subst r
        rw [List.nodup_append] at hF
        exact (List.nodup_cons.1 hF.2.1).1 hx
    · rw [if_neg hm]
      refine ⟨fun x y hs h1 h2 => ?_, fun x hx h1 => ?_, fun x hx h1 => h.high x (List.mem_cons_of_mem _ hx) h1⟩
      · rcases sub2_snoc hs with q | ⟨q, rfl⟩
        · exact h.keep x y q h1 h2
        · exact absurd h2 hi
      · rcases List.mem_append.1 hx with q | q
        · exact h.low x q h1
        · rw [List.mem_singleton] at q
          subst q; exact absurd h1 hi
theorem OrdJ.all {m : Int → Bool} {L : List Int} : ∀ (F2 F1 : List Int) (s : List Int × Nat), OrdI m L F1 s → OrdJ s F1 F2 → (F1 ++ F2).Nodup → KS L (F1 ++ F2) → OrdJ (F2.foldl (ordS m) s) (F1 ++ F2) []
  | [], F1, s, _, h, _, _ => by simpa using h
  | i :: F2, F1, s, hI, h, hF, hA => by
    have := OrdJ.all F2 (F1 ++ [i]) _ (hI.step i) (OrdJ.step hI h hF hA) (by simpa using hF) (by simpa using hA)
    simpa using this
theorem ordL_lead (m : Int → Bool) {L : List Int} (hL : L.Nodup) (F : List Int) : KS (ordL m L F) L := (ordL_inv m hL F).lead
theorem ordL_nodup (m : Int → Bool) {L : List Int} (hL : L.Nodup) (F : List Int) : (ordL m L F).Nodup := (ordL_inv m hL F).nodup
theorem ordL_mem (m : Int → Bool) {L : List Int} (hL : L.Nodup) (F : List Int) (i : Int) : i ∈ ordL m L F ↔ m i = true ∧ (i ∈ L ∨ i ∈ F) := (ordL_inv m hL F).mem i
theorem ordL_follow (m : Int → Bool) {L F : List Int} (hL : L.Nodup) (hF : F.Nodup) (hA : KS L F) : KS (ordL m L F) F := by
  have := OrdJ.all F [] _ (OrdI.start m hL) ⟨fun x y hs => by simp at hs, fun x hx => by simp at hx, fun x hx h => by simpa using h⟩ (by simpa using hF) (by simpa using hA)
  rw [List.nil_append] at this
  exact this.keep
/- the merge -/
def mord (p a b : List Blk) : List Int := if movI (bids p) (bids b) = true then ordL (hasM p a b) (bids b) (bids a) else ordL (hasM p a b) (bids a) (bids b)
def mres (p a b : List Blk) : List Blk := (mord p a b).filterMap (mrg p a b)
def v3 (p a b : List Blk) : Bool := vL p && (vL a && vL b)
def mergeR (p a b : List Blk) : List Blk × List Int × Int := if v3 p a b = true then (if 24 < mcount p a b then ([], [], 40) else (mres p a b, mconf p a b, 0)) else ([], [], 40)
theorem v3_iff {p a b : List Blk} : v3 p a b = true ↔ vL p = true ∧ vL a = true ∧ vL b = true := by simp [v3]
section
variable {p a b : List Blk}
theorem mord_nodup (h : v3 p a b = true) : (mord p a b).Nodup := by
  obtain ⟨_, ha, hb⟩ := v3_iff.1 h
  unfold mord
  split
  · exact ordL_nodup _ (vL_nodup hb) _
  · exact ordL_nodup _ (vL_nodup ha) _
theorem mord_mem (h : v3 p a b = true) (i : Int) : i ∈ mord p a b ↔ hasM p a b i = true := by
  obtain ⟨_, ha, hb⟩ := v3_iff.1 h
  unfold mord
  split
  · rw [ordL_mem _ (vL_nodup hb)]
    exact ⟨fun q => q.1, fun q => ⟨q, (mrg_mem q).symm⟩⟩
  · rw [ordL_mem _ (vL_nodup ha)]
    exact ⟨fun q => q.1, fun q => ⟨q, mrg_mem q⟩⟩
theorem ids_filterMap (l : List Int) (h : ∀ i ∈ l, hasM p a b i = true) : bids (l.filterMap (mrg p a b)) = l := by
  induction l with
  | nil => rfl
  | cons i l ih =>
    obtain ⟨x, hx⟩ := Option.isSome_iff_exists.1 (h i List.mem_cons_self)
    rw [List.filterMap_cons, hx]
    show x.id :: bids _ = _
    rw [ih (fun j hj => h j (List.mem_cons_of_mem _ hj)), mrg_id hx]
theorem ids_mres (h : v3 p a b = true) : bids (mres p a b) = mord p a b := ids_filterMap _ (fun i hi => (mord_mem h i).1 hi)
theorem mres_nodup (h : v3 p a b = true) : (bids (mres p a b)).Nodup := by rw [ids_mres h]; exact mord_nodup h
theorem fnd_mres (h : v3 p a b = true) (i : Int) : fnd (mres p a b) i = mrg p a b i := by
  cases e : mrg p a b i with
  | none =>
    rw [fnd_none, ids_mres h, mord_mem h]
    unfold hasM; rw [e]; simp
  | some x =>
    have hi : i ∈ mord p a b := (mord_mem h i).2 (by unfold hasM; rw [e]; rfl)
    have hx : x ∈ mres p a b := List.mem_filterMap.2 ⟨i, hi, e⟩
    obtain ⟨k, hk⟩ := List.getElem?_of_mem hx
    exact fnd_of (mres_nodup h) hk (mrg_id e)
theorem len_ids (l : List Blk) : (bids l).length = l.length := by unfold bids; simp
theorem mres_len (h : v3 p a b = true) : (mres p a b).length = mcount p a b := by
  obtain ⟨_, ha, hb⟩ := v3_iff.1 h
  rw [← len_ids, ids_mres h]
  have : (mord p a b).Perm (iota.filter (hasM p a b)) := by
    rw [List.perm_ext_iff_of_nodup (mord_nodup h) (iota_nodup.filter _)]
    intro i
    rw [mord_mem h, List.mem_filter, mem_iota]
    refine ⟨fun q => ⟨?_, q⟩, fun q => q.2⟩
    rcases mrg_mem q with r | r
    · exact ids_bd ha r
    · exact ids_bd hb r
  exact this.length_eq
theorem mres_from {x : Blk} (hx : x ∈ mres p a b) : x ∈ a ∨ x ∈ b := by
  obtain ⟨i, _, e⟩ := List.mem_filterMap.1 hx
  rcases mrg_of e with q | q
  · exact .inl (fnd_mem q)
  · exact .inr (fnd_mem q)
theorem mres_valid (h : v3 p a b = true) (hc : ¬ 24 < mcount p a b) : vL (mres p a b) = true := by
  obtain ⟨_, ha, hb⟩ := v3_iff.1 h
  refine vL_mk (by rw [mres_len h]; omega) (fun x hx => ?_) (mres_nodup h)
  rcases mres_from hx with q | q
  · exact vL_all ha x q
  · exact vL_all hb x q
/- one list alone was changed -/
theorem eq_of_fnd {l m : List Blk} (hl : (bids l).Nodup) (hm : (bids m).Nodup) (h : bids l = bids m) (hf : ∀ i, fnd l i = fnd m i) : l = m := by
  refine List.ext_getElem? (fun k => ?_)
  have hk : (bids l)[k]? = (bids m)[k]? := by rw [h]
  unfold bids at hk
  rw [List.getElem?_map, List.getElem?_map] at hk
  cases e1 : l[k]? with
  | none =>
    rw [e1] at hk
    cases e2 : m[k]? with
    | none => rfl
    | some y => rw [e2] at hk; simp at hk
  | some x =>
    rw [e1] at hk
    cases e2 : m[k]? with
    | none => rw [e2] at hk; simp at hk
    | some y =>
      rw [e2] at hk
      simp only [Option.map_some, Option.some.injEq] at hk
      have f1 := fnd_of hl e1 rfl
      have f2 := fnd_of hm e2 hk.symm
      rw [hf, f2] at f1
      exact f1.symm
theorem chs_yy (x y : Option Blk) : chs x y y = (y, false) := by
  rcases chs_cases x y y with ⟨_, e⟩ | ⟨_, _, e⟩ | ⟨_, _, q, _⟩ | ⟨_, _, q, _⟩
  · exact e
  · exact e
  · exact absurd rfl q
  · exact absurd rfl q
theorem chs_xx (x z : Option Blk) : chs x x z = (z, false) := by
  rcases chs_cases x x z with ⟨_, e⟩ | ⟨q, _⟩ | ⟨q, _⟩ | ⟨q, _⟩
  · exact e
  · exact absurd rfl q
  · exact absurd rfl q
  · exact absurd rfl q
theorem chs_xyx (x y : Option Blk) : chs x y x = (y, false) := by
  rcases chs_cases x y x with ⟨h, e⟩ | ⟨_, _, e⟩ | ⟨_, q, _⟩ | ⟨_, q, _⟩
  · rw [e, h]
  · exact e
  · exact absurd rfl q
  · exact absurd rfl q
theorem merge_of_all {l : List Blk} (h : v3 p a b = true) (hl : vL l = true) (hm : ∀ i, chs (fnd p i) (fnd a i) (fnd b i) = (fnd l i, false)) (ho : KS (mord p a b) (bids l)) : mergeR p a b = (l, [], 0) := by
  have e1 : ∀ i, mrg p a b i = fnd l i := fun i => by unfold mrg; rw [hm]
  have e2 : bids (mres p a b) = bids l := by
    rw [ids_mres h]
    refine eq_of_KS (mord_nodup h) (vL_nodup hl) ho (fun i => ?_)
    rw [mord_mem h]; unfold hasM; rw [e1]; exact fnd_isSome
  have e3 : mres p a b = l := eq_of_fnd (mres_nodup h) (vL_nodup hl) e2 (fun i => by rw [fnd_mres h, e1])
  have e4 : mcount p a b = l.length := by rw [← mres_len h, e3]
  have e5 : mconf p a b = [] := by
    unfold mconf
    rw [List.filter_eq_nil_iff]
    intro i _
    unfold cfl; rw [hm]; simp
  unfold mergeR
  have := vL_len hl
  rw [if_pos h, if_neg (by omega), e3, e5]
theorem mord_lead (h : v3 p a b = true) : KS (mord p a b) (if movI (bids p) (bids b) = true then bids b else bids a) := by
  obtain ⟨_, ha, hb⟩ := v3_iff.1 h
  unfold mord
  split
  · exact ordL_lead _ (vL_nodup hb) _
  · exact ordL_lead _ (vL_nodup ha) _
theorem mord_both (h : v3 p a b = true) (hA : KS (bids b) (bids a)) : KS (mord p a b) (bids a) ∧ KS (mord p a b) (bids b) := by
  obtain ⟨_, ha, hb⟩ := v3_iff.1 h
  unfold mord
  split
  · exact ⟨ordL_follow _ (vL_nodup hb) (vL_nodup ha) hA, ordL_lead _ (vL_nodup hb) _⟩
  · exact ⟨ordL_lead _ (vL_nodup ha) _, ordL_follow _ (vL_nodup ha) (vL_nodup hb) (hA.symm (vL_nodup hb))⟩
theorem one_both (hp : vL p = true) (ha : vL a = true) : mergeR p a a = (a, [], 0) := by
  have h : v3 p a a = true := v3_iff.2 ⟨hp, ha, ha⟩
  refine merge_of_all h ha (fun i => chs_yy _ _) ?_
  have := mord_lead h
  split at this <;> exact this
theorem one_b (hp : vL p = true) (ha : vL a = true) : mergeR p p a = (a, [], 0) := by
  have h : v3 p p a = true := v3_iff.2 ⟨hp, hp, ha⟩
  refine merge_of_all h ha (fun i => chs_xx _ _) ?_
  by_cases hm : movI (bids p) (bids a) = true
  · have := mord_lead h
    rw [if_pos hm] at this
    exact this
  · have hk : KS (bids p) (bids a) := (mov_KS (vL_nodup hp) (vL_nodup ha)).1 (by simpa using hm)
    exact (mord_both h (hk.symm (vL_nodup hp))).2
theorem KS_self (l : List Int) : KS l l := fun _ _ h _ _ => h
theorem one_a (hp : vL p = true) (ha : vL a = true) : mergeR p a p = (a, [], 0) := by
  have h : v3 p a p = true := v3_iff.2 ⟨hp, ha, hp⟩
  refine merge_of_all h ha (fun i => chs_xyx _ _) ?_
  have hm : movI (bids p) (bids p) = false := (mov_KS (vL_nodup hp) (vL_nodup hp)).2 (KS_self _)
  have := mord_lead h
  rw [hm] at this
  simpa using this
/- mcontents, conflicts -/
theorem mergeR_ok (h : (mergeR p a b).2.2 = 0) : v3 p a b = true ∧ ¬ 24 < mcount p a b ∧ mergeR p a b = (mres p a b, mconf p a b, 0) := by
  unfold mergeR at h ⊢
  by_cases h1 : v3 p a b = true
  · rw [if_pos h1] at h ⊢
    by_cases h2 : 24 < mcount p a b
    · rw [if_pos h2] at h; simp at h
    · exact ⟨h1, h2, by rw [if_neg h2]⟩
  · rw [if_neg h1] at h; simp at h
theorem mergeR_err : (mergeR p a b).2.2 = 0 ∨ mergeR p a b = ([], [], 40) := by
  unfold mergeR
  split
  · split
    · exact .inr rfl
    · exact .inl rfl
  · exact .inr rfl
theorem cfl_iff (i : Int) : cfl p a b i = true ↔ fnd p i ≠ fnd a i ∧ fnd p i ≠ fnd b i ∧ fnd a i ≠ fnd b i := by
  unfold cfl
  rcases chs_cases (fnd p i) (fnd a i) (fnd b i) with ⟨h, e⟩ | ⟨h, q, e⟩ | ⟨h1, h2, h3, _, e⟩ | ⟨h1, h2, h3, _, e⟩ <;> rw [e]
  · simp [h]
  · constructor
    · intro g; cases g
    · rintro ⟨_, g1, g2⟩
      rcases q with q | q
      · exact absurd q.symm g1
      · exact absurd q.symm g2
  · exact ⟨fun _ => ⟨Ne.symm h1, Ne.symm h2, Ne.symm h3⟩, fun _ => rfl⟩
  · exact ⟨fun _ => ⟨Ne.symm h1, Ne.symm h2, Ne.symm h3⟩, fun _ => rfl⟩
theorem mcontents (i : Int) : (mrg p a b i = fnd a i ∨ mrg p a b i = fnd b i) ∧ (fnd p i = fnd a i → mrg p a b i = fnd b i) ∧ (fnd p i = fnd b i → mrg p a b i = fnd a i) := by
  unfold mrg
  rcases chs_cases (fnd p i) (fnd a i) (fnd b i) with ⟨h, e⟩ | ⟨h, q, e⟩ | ⟨h1, h2, h3, _, e⟩ | ⟨h1, h2, h3, _, e⟩ <;> rw [e]
  · exact ⟨.inr rfl, fun _ => rfl, fun g => by dsimp only; rw [h, g]⟩
  · exact ⟨.inl rfl, fun g => absurd g.symm h, fun _ => rfl⟩
  · exact ⟨.inl rfl, fun g => absurd g.symm h1, fun _ => rfl⟩
  · exact ⟨.inr rfl, fun _ => rfl, fun g => absurd g.symm h2⟩
theorem conflict_takes (i : Int) (h : cfl p a b i = true) : mrg p a b i = (if i ∈ bids b then fnd b i else fnd a i) := by
  unfold cfl at h
  unfold mrg
  rcases chs_cases (fnd p i) (fnd a i) (fnd b i) with ⟨g, e⟩ | ⟨g, q, e⟩ | ⟨h1, h2, h3, h4, e⟩ | ⟨h1, h2, h3, h4, e⟩ <;> rw [e] at h ⊢
  · simp at h
  · simp at h
  · rw [if_neg (fnd_none.1 h4)]
  · rw [if_pos]
    apply Classical.byContradiction
    intro g
    exact h4 (fnd_none.2 g)
open Classical in
theorem chs_fst (x y z : Option Blk) : (chs x y z).1 = if y = x then z else if z = x ∨ z = y then y else if z = none then y else z := by
  rcases chs_cases x y z with ⟨h, e⟩ | ⟨h, q, e⟩ | ⟨h1, h2, h3, h4, e⟩ | ⟨h1, h2, h3, h4, e⟩ <;> rw [e] <;> dsimp only
  · rw [if_pos h]
  · rw [if_neg h, if_pos q]
  · rw [if_neg h1, if_neg (by rintro (g | g); exact h2 g; exact h3 g), if_pos h4]
  · rw [if_neg h1, if_neg (by rintro (g | g); exact h2 g; exact h3 g), if_neg h4]
open Classical in
theorem has_swap (i : Int) : hasM p a b i = hasM p b a i := by
  unfold hasM mrg
  generalize fnd p i = x
  generalize fnd a i = y
  generalize fnd b i = z
  rw [chs_fst, chs_fst]
  by_cases h1 : y = x
  · rw [if_pos h1]
    by_cases h2 : z = x
    · rw [if_pos h2, h1, h2]
    · rw [if_neg h2, if_pos (.inl h1)]
  · rw [if_neg h1]
    by_cases h2 : z = x
    · rw [if_pos (.inl h2), if_pos h2]
    · rw [if_neg h2]
      by_cases h3 : z = y
      · rw [if_pos (.inr h3), if_pos (.inr h3.symm), h3]
      · have g1 : ¬ (z = x ∨ z = y) := fun g => g.elim h2 h3
        have g2 : ¬ (y = x ∨ y = z) := fun g => g.elim h1 (fun q => h3 q.symm)
        rw [if_neg g1, if_neg g2]
        clear g1 g2
        cases y with
        | none =>
          cases z with
          | none => exact absurd rfl h3
          | some v => simp
        | some u =>
          cases z with
          | none => simp
          | some v => simp
theorem cfl_swap (i : Int) : cfl p a b i = cfl p b a i := by
  rw [Bool.eq_iff_iff, cfl_iff, cfl_iff]
  exact ⟨fun ⟨h1, h2, h3⟩ => ⟨h2, h1, Ne.symm h3⟩, fun ⟨h1, h2, h3⟩ => ⟨h2, h1, Ne.symm h3⟩⟩
theorem mrg_swap (i : Int) (h : cfl p a b i = false) : mrg p a b i = mrg p b a i := by
  have h2 : cfl p b a i = false := by rw [← cfl_swap]; exact h
  unfold cfl at h h2
  unfold mrg
  rcases chs_cases (fnd p i) (fnd a i) (fnd b i) with ⟨q, e⟩ | ⟨q, r, e⟩ | ⟨_, _, _, _, e⟩ | ⟨_, _, _, _, e⟩ <;> rw [e] at h ⊢
  · rcases chs_cases (fnd p i) (fnd b i) (fnd a i) with ⟨q2, e2⟩ | ⟨q2, r2, e2⟩ | ⟨_, _, _, _, e2⟩ | ⟨_, _, _, _, e2⟩ <;> rw [e2] at h2 ⊢
    · dsimp only; rw [q, q2]
    · simp at h2
  · rcases chs_cases (fnd p i) (fnd b i) (fnd a i) with ⟨q2, e2⟩ | ⟨q2, r2, e2⟩ | ⟨_, _, _, _, e2⟩ | ⟨_, _, _, _, e2⟩ <;> rw [e2] at h2 ⊢
    · dsimp only
      rcases r with r | r
      · exact absurd r q2
      · exact r.symm
    · simp at h2
  · simp at h
  · simp at h
theorem mcount_congr {p2 a2 b2 : List Blk} (h : ∀ i, hasM p a b i = hasM p2 a2 b2 i) : mcount p a b = mcount p2 a2 b2 := by
  unfold mcount
  have : hasM p a b = hasM p2 a2 b2 := funext h
  rw [this]
theorem v3_swap : v3 p a b = v3 p b a := by
  rw [Bool.eq_iff_iff, v3_iff, v3_iff]
  exact ⟨fun ⟨h1, h2, h3⟩ => ⟨h1, h3, h2⟩, fun ⟨h1, h2, h3⟩ => ⟨h1, h3, h2⟩⟩
theorem mexchanged : (mergeR p a b).2 = (mergeR p b a).2 ∧ ((mergeR p a b).2.1 = [] → ∀ i, fnd (mergeR p a b).1 i = fnd (mergeR p b a).1 i) := by
  have e1 : mconf p a b = mconf p b a := by
    unfold mconf
    have : cfl p a b = cfl p b a := funext cfl_swap
    rw [this]
  have e2 : mcount p a b = mcount p b a := mcount_congr has_swap
  by_cases h : v3 p a b = true
  · have h' : v3 p b a = true := by rw [← v3_swap]; exact h
    unfold mergeR
    rw [if_pos h, if_pos h', ← e2]
    by_cases hc : 24 < mcount p a b
    · rw [if_pos hc, if_pos hc]; exact ⟨rfl, fun _ _ => rfl⟩
    · rw [if_neg hc, if_neg hc]
      refine ⟨by dsimp only; rw [e1], fun hn i => ?_⟩
      dsimp only at hn ⊢
      rw [fnd_mres h, fnd_mres h']
      by_cases hi : 1 ≤ i ∧ i ≤ 1000
      · refine mrg_swap i ?_
        unfold mconf at hn
        rw [List.filter_eq_nil_iff] at hn
        simpa using hn i (mem_iota.2 hi)
      · obtain ⟨hp, ha, hb⟩ := v3_iff.1 h
        have f1 : fnd a i = none := fnd_none.2 (fun q => hi (ids_bd ha q))
        have f2 : fnd b i = none := fnd_none.2 (fun q => hi (ids_bd hb q))
        unfold mrg
        rw [f1, f2]
  · have h' : ¬ v3 p b a = true := by rw [← v3_swap]; exact h
    unfold mergeR
    rw [if_neg h, if_neg h']
    exact ⟨rfl, fun _ _ => rfl⟩
theorem again_aux (x y z : Option Blk) : (chs x y (chs x y z).1).1 = (chs x y z).1 := by
  rcases chs_cases x y z with ⟨h, e⟩ | ⟨h, q, e⟩ | ⟨h1, h2, h3, h4, e⟩ | ⟨h1, h2, h3, h4, e⟩ <;> rw [e] <;> dsimp only
  · rw [e]
  · rw [chs_yy]
  · rw [chs_yy]
  · rw [e]
open Classical in
theorem again_aux2 (x y z : Option Blk) : (chs x z (chs x y z).1).1 = (chs x y z).1 := by
  rcases chs_cases x y z with ⟨h, e⟩ | ⟨h, q, e⟩ | ⟨h1, h2, h3, h4, e⟩ | ⟨h1, h2, h3, h4, e⟩ <;> rw [e] <;> dsimp only
  · rw [chs_yy]
  · rcases q with q | q
    · rw [q, chs_xx]
    · rw [q, chs_yy]
  · rw [chs_fst, if_neg h2, if_neg (by rintro (g | g); exact h1 g; exact h3 g.symm), if_neg (by rw [h4] at h3; exact fun g => h3 g.symm)]
  · rw [chs_yy]
theorem again_of {q : List Blk} (h : v3 p a b = true) (hc : ¬ 24 < mcount p a b) (hq : vL q = true) (hm : ∀ i, mrg p q (mres p a b) i = mrg p a b i) : (mergeR p q (mres p a b)).2.2 = 0 ∧ ∀ i, fnd (mergeR p q (mres p a b)).1 i = fnd (mres p a b) i := by
  have h2 : v3 p q (mres p a b) = true := v3_iff.2 ⟨(v3_iff.1 h).1, hq, mres_valid h hc⟩
  have e : mcount p q (mres p a b) = mcount p a b := mcount_congr (fun i => by unfold hasM; rw [hm])
  unfold mergeR
  rw [if_pos h2, if_neg (by rw [e]; exact hc)]
  exact ⟨rfl, fun i => by dsimp only; rw [fnd_mres h2, hm, fnd_mres h]⟩
theorem again_a (h : v3 p a b = true) (hc : ¬ 24 < mcount p a b) : (mergeR p a (mres p a b)).2.2 = 0 ∧ ∀ i, fnd (mergeR p a (mres p a b)).1 i = fnd (mres p a b) i := by
  refine again_of h hc (v3_iff.1 h).2.1 (fun i => ?_)
  unfold mrg
  rw [fnd_mres h]
  exact again_aux _ _ _
theorem again_b (h : v3 p a b = true) (hc : ¬ 24 < mcount p a b) : (mergeR p b (mres p a b)).2.2 = 0 ∧ ∀ i, fnd (mergeR p b (mres p a b)).1 i = fnd (mres p a b) i := by
  refine again_of h hc (v3_iff.1 h).2.2 (fun i => ?_)
  unfold mrg
  rw [fnd_mres h]
  exact again_aux2 _ _ _
theorem mkeeps (h : v3 p a b = true) : (movI (bids b) (bids a) = false → movI (mord p a b) (bids a) = false ∧ movI (mord p a b) (bids b) = false) ∧ (movI (bids p) (bids b) = true → movI (mord p a b) (bids b) = false) ∧ (movI (bids p) (bids b) = false → movI (mord p a b) (bids a) = false) := by
  obtain ⟨hp, ha, hb⟩ := v3_iff.1 h
  have n := mord_nodup h
  have na := vL_nodup ha
  have nb := vL_nodup hb
  rw [mov_KS nb na, mov_KS n na, mov_KS n nb]
  have hl := mord_lead h
  refine ⟨fun hA => mord_both h hA, fun hm => ?_, fun hm => ?_⟩
  · rw [if_pos hm] at hl; exact hl
  · rw [hm] at hl; simpa using hl
end
theorem sort_eq {l m : List Int} (hl : l.Nodup) (hm : m.Pairwise (· < ·)) (h : ∀ i, i ∈ l ↔ i ∈ m) : l.mergeSort (fun x y => decide (x ≤ y)) = m := by
  refine List.Perm.eq_of_pairwise (le := fun x y : Int => x ≤ y) (fun x y _ _ h1 h2 => by omega) ?_ (hm.imp (fun h => by omega)) ((List.mergeSort_perm l _).trans ((List.perm_ext_iff_of_nodup hl (nodup_of_lt hm)).2 h))
  have := List.pairwise_mergeSort (le := fun x y : Int => decide (x ≤ y)) (fun a b c h1 h2 => by simp at *; omega) (fun a b => by simp; omega) l
  exact this.imp (fun h => by simpa using h)
/- the IDs that occur, list by list -/
def seenI (ls : List (List Int)) (i : Int) : Bool := ls.any (fun l => l.contains i)
def newI (ls : List (List Int)) (l : List Int) : List Int := l.filter (fun i => !seenI ls i)
def idsU (ls : List (List Int)) : Nat → List Int
  | 0 => []
  | k + 1 => idsU ls k ++ newI (ls.take k) (ls[k]?.getD [])
theorem seenI_iff {ls : List (List Int)} {i : Int} : seenI ls i = true ↔ ∃ l ∈ ls, i ∈ l := by
  unfold seenI; rw [List.any_eq_true]; simp
theorem newI_mem {ls : List (List Int)} {l : List Int} {i : Int} : i ∈ newI ls l ↔ i ∈ l ∧ ¬ seenI ls i = true := by
  unfold newI; rw [List.mem_filter]; simp
theorem take_succ_any {ls : List (List Int)} {k : Nat} {i : Int} : seenI (ls.take (k + 1)) i = true ↔ seenI (ls.take k) i = true ∨ i ∈ ls[k]?.getD [] := by
  cases e : ls[k]? with
  | none =>
    have hk := List.getElem?_eq_none_iff.1 e
    rw [List.take_of_length_le (by omega), List.take_of_length_le hk]
    simp
  | some l =>
    obtain ⟨hk, rfl⟩ := List.getElem?_eq_some_iff.1 e
    rw [List.take_succ_eq_append_getElem hk]
    unfold seenI
    rw [List.any_append]
    simp
theorem idsU_mem (ls : List (List Int)) (i : Int) : ∀ k, i ∈ idsU ls k ↔ seenI (ls.take k) i = true
  | 0 => by simp [idsU, seenI]
  | k + 1 => by
    rw [idsU, List.mem_append, idsU_mem ls i k, newI_mem, take_succ_any]
    constructor
    · rintro (h | ⟨h, _⟩)
      · exact .inl h
      · exact .inr h
    · rintro (h | h)
      · exact .inl h
      · by_cases q : seenI (ls.take k) i = true
        · exact .inl q
        · exact .inr ⟨h, q⟩
theorem idsU_nodup {ls : List (List Int)} (h : ∀ l ∈ ls, l.Nodup) : ∀ k, (idsU ls k).Nodup
  | 0 => by simp [idsU]
  | k + 1 => by
    rw [idsU, List.nodup_append]
    refine ⟨idsU_nodup h k, ?_, fun x hx y hy e => ?_⟩
    · unfold newI
      refine List.Pairwise.filter _ (show (ls[k]?.getD []).Nodup from ?_)
      cases e : ls[k]? with
      | none => simp
      | some l => exact h l (List.mem_of_getElem? e)
    · subst e
      exact (newI_mem.1 hy).2 ((idsU_mem ls x k).1 hx)
def lls (p a b : List Blk) : List (List Int) := [bids p, bids a, bids b]
def idsA (p a b : List Blk) : List Int := idsU (lls p a b) 3
section
variable {p a b : List Blk}
theorem idsA_mem (i : Int) : i ∈ idsA p a b ↔ i ∈ bids p ∨ i ∈ bids a ∨ i ∈ bids b := by
  unfold idsA
  rw [idsU_mem, seenI_iff]
  simp [lls]
theorem idsA_nodup (h : v3 p a b = true) : (idsA p a b).Nodup := by
  obtain ⟨hp, ha, hb⟩ := v3_iff.1 h
  refine idsU_nodup (fun l hl => ?_) 3
  simp only [lls, List.mem_cons, List.not_mem_nil, or_false] at hl
  rcases hl with rfl | rfl | rfl
  · exact vL_nodup hp
  · exact vL_nodup ha
  · exact vL_nodup hb
theorem idsA_bd (h : v3 p a b = true) {i : Int} (hi : i ∈ idsA p a b) : 1 ≤ i ∧ i ≤ 1000 := by
  obtain ⟨hp, ha, hb⟩ := v3_iff.1 h
  rcases (idsA_mem i).1 hi with q | q | q
  · exact ids_bd hp q
  · exact ids_bd ha q
  · exact ids_bd hb q
theorem cfl_occurs {i : Int} (h : cfl p a b i = true) : i ∈ idsA p a b := by
  rw [idsA_mem]
  apply Classical.byContradiction
  intro q
  simp only [not_or] at q
  obtain ⟨_, _, h3⟩ := (cfl_iff i).1 h
  exact h3 (by rw [fnd_none.2 q.2.1, fnd_none.2 q.2.2])
theorem has_occurs {i : Int} (h : hasM p a b i = true) : i ∈ idsA p a b := by
  rw [idsA_mem]
  rcases mrg_mem h with q | q
  · exact .inr (.inl q)
  · exact .inr (.inr q)
theorem sort_conf (h : v3 p a b = true) : ((idsA p a b).filter (cfl p a b)).mergeSort (fun x y => decide (x ≤ y)) = mconf p a b := by
  refine sort_eq ((idsA_nodup h).filter _) (iota_lt.filter _) (fun i => ?_)
  rw [List.mem_filter, mconf, List.mem_filter, mem_iota]
  exact ⟨fun q => ⟨idsA_bd h q.1, q.2⟩, fun q => ⟨cfl_occurs q.2, q.2⟩⟩
theorem count_ids (h : v3 p a b = true) : ((idsA p a b).filter (hasM p a b)).length = mcount p a b := by
  refine List.Perm.length_eq ?_
  rw [List.perm_ext_iff_of_nodup ((idsA_nodup h).filter _) (iota_nodup.filter _)]
  intro i
  rw [List.mem_filter, List.mem_filter, mem_iota]
  exact ⟨fun q => ⟨idsA_bd h q.1, q.2⟩, fun q => ⟨has_occurs q.2, q.2⟩⟩
theorem idsA_len (h : v3 p a b = true) : (idsA p a b).length ≤ 72 := by
  obtain ⟨hp, ha, hb⟩ := v3_iff.1 h
  have e : idsA p a b = newI [] (bids p) ++ newI [bids p] (bids a) ++ newI [bids p, bids a] (bids b) := by simp [idsA, idsU, lls]
  rw [e, List.length_append, List.length_append]
  have l1 := List.length_filter_le (fun i => !seenI [] i) (bids p)
  have l2 := List.length_filter_le (fun i => !seenI [bids p] i) (bids a)
  have l3 := List.length_filter_le (fun i => !seenI [bids p, bids a] i) (bids b)
  have h1 := vL_len hp
  have h2 := vL_len ha
  have h3 := vL_len hb
  rw [len_ids] at l1 l2 l3
  unfold newI
  omega
end
end Go.Proofs.YtelipjjjlgnjoaaGreatDoor
