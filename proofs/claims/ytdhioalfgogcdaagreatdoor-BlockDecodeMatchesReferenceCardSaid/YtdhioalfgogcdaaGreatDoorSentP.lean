/- Sentences of a text as plain data: where they end, what they are, and the laws of dividing and joining. -/
namespace Go.Proofs.YtdhioalfgogcdaaGreatDoor
def upB (b : UInt8) : Bool := decide (65 ≤ b.toNat ∧ b.toNat ≤ 90)
/-- What lies before: 0 nothing or a space, 1 an initial, 2 another byte. -/
def nxt (c : Nat) (b : UInt8) : Nat := if b = 32 then 0 else if c = 0 ∧ upB b = true then 1 else 2
def enB (c : Nat) (b : UInt8) (r : List UInt8) : Bool := (decide (b = 33 ∨ b = 63) || (decide (b = 46) && decide (c ≠ 1))) && (decide (r = []) || decide (r.head? = some 32))
def cut : Nat → List UInt8 → List UInt8 → List (List UInt8)
  | _, acc, [] => [acc]
  | c, acc, b :: r => if enB c b r = true then (acc ++ [b]) :: cut (nxt c b) [] r else cut (nxt c b) (acc ++ [b]) r
def triL (l : List UInt8) : List UInt8 := l.dropWhile (· == 32)
def triR (l : List UInt8) : List UInt8 := (l.reverse.dropWhile (· == 32)).reverse
def tri (l : List UInt8) : List UInt8 := triL (triR l)
def full (l : List UInt8) : Bool := !l.isEmpty
def keepP (ps : List (List UInt8)) : List (List UInt8) := (ps.map tri).filter full
def sentP (t : List UInt8) : List (List UInt8) := keepP (cut 0 [] t)
def bareP (t : List UInt8) : List UInt8 := t.filter (· != 32)
def joinP : List (List UInt8) → List UInt8
  | [] => []
  | [s] => s
  | s :: m :: r => s ++ 32 :: joinP (m :: r)
/-- Neither empty, nor beginning or ending with a space. -/
def Tidy (s : List UInt8) : Prop := s ≠ [] ∧ s.head? ≠ some 32 ∧ s.getLast? ≠ some 32
/-- A sentence: tidy, and cut nowhere but, if it is closed, at its end. -/
def Sent (s : List UInt8) (closed : Bool) : Prop := Tidy s ∧ cut 0 [] s = if closed then [s, []] else [s]

theorem triR_snoc (l : List UInt8) (b : UInt8) : triR (l ++ [b]) = if b = 32 then triR l else l ++ [b] := by
  unfold triR
  rw [List.reverse_append, List.reverse_singleton, List.singleton_append, List.dropWhile_cons]
  by_cases h : b = 32
  · simp [h]
  · simp [h]
theorem triR_sp (k : Nat) : triR (List.replicate k 32) = [] := by
  unfold triR
  rw [List.reverse_replicate]
  induction k with
  | zero => rfl
  | succ k ih => rw [List.replicate_succ, List.dropWhile_cons]; simp
theorem triL_sp (k : Nat) (l : List UInt8) : triL (List.replicate k 32 ++ l) = triL l := by
  unfold triL
  induction k with
  | zero => rfl
  | succ k ih => rw [List.replicate_succ, List.cons_append, List.dropWhile_cons]; simp
theorem triR_spR (k : Nat) (l : List UInt8) : triR (l ++ List.replicate k 32) = triR l := by
  induction k with
  | zero => simp
  | succ k ih => rw [List.replicate_succ', ← List.append_assoc, triR_snoc, if_pos rfl, ih]
theorem triR_last {l : List UInt8} (h : l.getLast? ≠ some 32) : triR l = l := by
  rcases List.eq_nil_or_concat l with rfl | ⟨m, b, rfl⟩
  · rfl
  · rw [List.concat_eq_append] at h ⊢
    rw [triR_snoc, if_neg]
    simpa using h
theorem triL_head {l : List UInt8} (h : l.head? ≠ some 32) : triL l = l := by
  cases l with
  | nil => rfl
  | cons b r => unfold triL; rw [List.dropWhile_cons, if_neg]; simpa using h
theorem tri_sent {s : List UInt8} (h : Tidy s) (k m : Nat) : tri (List.replicate k 32 ++ s ++ List.replicate m 32) = s := by
  obtain ⟨h0, h1, h2⟩ := h
  unfold tri
  rw [triR_spR, triR_last, triL_sp, triL_head h1]
  rw [List.getLast?_append]
  cases e : s.getLast? with
  | none => simp at e; exact absurd e h0
  | some x => rw [e] at h2; simpa using h2
theorem tri_sp (k : Nat) : tri (List.replicate k 32) = [] := by unfold tri; rw [triR_sp]; rfl

/-- A list as spaces, a core, spaces. -/
theorem split_tri (l : List UInt8) : ∃ k m, (tri l = [] ∧ l = List.replicate k 32) ∨ (Tidy (tri l) ∧ l = List.replicate k 32 ++ tri l ++ List.replicate m 32) := by
  have hR : ∀ l : List UInt8, ∃ m, l = triR l ++ List.replicate m 32 ∧ (triR l).getLast? ≠ some 32 := by
    intro l
    induction h : l.length generalizing l with
    | zero => obtain rfl := List.length_eq_zero_iff.1 h; exact ⟨0, by simp [triR], by simp [triR]⟩
    | succ n ih =>
      rcases List.eq_nil_or_concat l with rfl | ⟨m, b, rfl⟩
      · simp at h
      · rw [List.concat_eq_append] at h ⊢
        rw [triR_snoc]
        by_cases hb : b = 32
        · subst hb
          rw [if_pos rfl]
          obtain ⟨q, h1, h2⟩ := ih m (by simpa using h)
          refine ⟨q + 1, ?_, h2⟩
          conv => lhs; rw [h1]
          rw [List.append_assoc, List.replicate_succ']
        · rw [if_neg hb]
          exact ⟨0, by simp, by simpa using hb⟩
  have hL : ∀ l : List UInt8, ∃ k, l = List.replicate k 32 ++ triL l ∧ (triL l).head? ≠ some 32 := by
    intro l
    induction l with
    | nil => exact ⟨0, rfl, by simp [triL]⟩
    | cons b r ih =>
      by_cases hb : b = 32
      · subst hb
        obtain ⟨q, h1, h2⟩ := ih
        have e : triL (32 :: r) = triL r := by unfold triL; rw [List.dropWhile_cons]; simp
        rw [e]
        exact ⟨q + 1, by rw [List.replicate_succ, List.cons_append, ← h1], h2⟩
      · have e : triL (b :: r) = b :: r := triL_head (by simpa using hb)
        rw [e]
        exact ⟨0, rfl, by simpa using hb⟩
  obtain ⟨m, hm, hlast⟩ := hR l
  obtain ⟨k, hk, hhead⟩ := hL (triR l)
  have ht : triL (triR l) = tri l := rfl
  rw [ht] at hk hhead
  by_cases h0 : tri l = []
  · rw [h0, List.append_nil] at hk
    refine ⟨k + m, 0, .inl ⟨h0, ?_⟩⟩
    rw [hm, hk, List.replicate_append_replicate]
  · refine ⟨k, m, .inr ⟨⟨h0, hhead, ?_⟩, ?_⟩⟩
    · rw [hk, List.getLast?_append] at hlast
      cases e : (tri l).getLast? with
      | none => simp at e; exact absurd e h0
      | some x => rw [e] at hlast; simpa using hlast
    · rw [← hk]; exact hm

theorem cut_acc (c : Nat) (acc t : List UInt8) : cut c acc t = match cut c [] t with | [] => [] | p :: ps => (acc ++ p) :: ps := by
  induction t generalizing c acc with
  | nil => simp [cut]
  | cons b r ih =>
    unfold cut
    split
    · simp
    · rw [ih (nxt c b) (acc ++ [b]), ih (nxt c b) ([] ++ [b])]
      cases cut (nxt c b) [] r <;> simp
theorem cut_ne (c : Nat) (acc t : List UInt8) : cut c acc t ≠ [] := by
  induction t generalizing c acc with
  | nil => simp [cut]
  | cons b r ih => unfold cut; split <;> simp [ih]
theorem cut_flat (c : Nat) (acc t : List UInt8) : (cut c acc t).flatten = acc ++ t := by
  induction t generalizing c acc with
  | nil => simp [cut]
  | cons b r ih => unfold cut; split <;> simp [ih]

theorem enB_sp (c : Nat) (r : List UInt8) : enB c 32 r = false := by simp [enB]
theorem cut_sp (k c : Nat) (acc t : List UInt8) (hk : 1 ≤ k) : cut c acc (List.replicate k 32 ++ t) = cut 0 (acc ++ List.replicate k 32) t := by
  induction k generalizing c acc with
  | zero => omega
  | succ k ih =>
    rw [List.replicate_succ, List.cons_append]
    conv => lhs; rw [cut]
    rw [enB_sp, if_neg (by simp)]
    have hn : nxt c 32 = 0 := by simp [nxt]
    rw [hn]
    cases k with
    | zero => simp
    | succ k => rw [ih _ _ (by omega)]; simp [List.replicate_succ]
theorem enB_tail (c : Nat) (b : UInt8) (r : List UInt8) (k : Nat) : enB c b (r ++ List.replicate k 32) = enB c b r := by
  unfold enB
  congr 1
  cases r with
  | nil => cases k <;> simp [List.replicate_succ]
  | cons x r => simp
/-- What is cut of t, spaces behind it or not: the last piece takes the spaces. -/
theorem cut_tail (k c : Nat) (acc t : List UInt8) : ∃ ps p, cut c acc t = ps ++ [p] ∧ cut c acc (t ++ List.replicate k 32) = ps ++ [p ++ List.replicate k 32] := by
  induction t generalizing c acc with
  | nil =>
    refine ⟨[], acc, by simp [cut], ?_⟩
    cases k with
    | zero => simp [cut]
    | succ k => have := cut_sp (k + 1) c acc [] (by omega); simp only [List.append_nil] at this; simp [this, cut]
  | cons b r ih =>
    rw [List.cons_append]
    unfold cut
    rw [enB_tail]
    split
    · obtain ⟨ps, p, h1, h2⟩ := ih (nxt c b) []
      exact ⟨(acc ++ [b]) :: ps, p, by rw [h1]; simp, by rw [h2]; simp⟩
    · exact ih _ _

/-- A closed sentence with spaces and more behind it. -/
theorem cut_closed (s : List UInt8) : ∀ (c : Nat) (acc p t : List UInt8), cut c acc s = [p, []] → s ≠ [] → ∃ c', cut c acc (s ++ 32 :: t) = p :: cut c' [] (32 :: t) := by
  induction s with
  | nil => intro c acc p t h hs; exact absurd rfl hs
  | cons b r ih =>
    intro c acc p t h _
    cases r with
    | nil =>
      unfold cut at h
      by_cases he : enB c b [] = true
      · rw [if_pos he] at h
        simp [cut] at h
        refine ⟨nxt c b, ?_⟩
        have he' : enB c b (32 :: t) = true := by
          unfold enB at he ⊢
          simp only [Bool.and_eq_true] at he ⊢
          exact ⟨he.1, by simp⟩
        simp only [List.cons_append, List.nil_append]
        rw [cut, if_pos he', ← h]
      · rw [if_neg he] at h
        simp [cut] at h
    | cons x r =>
      have hen : enB c b ((x :: r) ++ 32 :: t) = enB c b (x :: r) := by simp [enB]
      rw [List.cons_append, cut, hen]
      unfold cut at h
      by_cases he : enB c b (x :: r) = true
      · rw [if_pos he] at h
        exfalso
        have h1 := (List.cons.inj h).2
        have := cut_flat (nxt c b) [] (x :: r)
        rw [h1] at this
        simp at this
      · rw [if_neg he] at h ⊢
        exact ih (nxt c b) (acc ++ [b]) p t h (by simp)
theorem keepP_cons (p : List UInt8) (ps : List (List UInt8)) : keepP (p :: ps) = if tri p = [] then keepP ps else tri p :: keepP ps := by
  unfold keepP
  rw [List.map_cons, List.filter_cons]
  cases h : tri p <;> simp [full]
theorem sp_zero (c k : Nat) (t : List UInt8) (hk : 1 ≤ k) : keepP (cut c [] (List.replicate k 32 ++ t)) = keepP (cut 0 (List.replicate k 32) t) := by rw [cut_sp k c [] t hk, List.nil_append]
/-- Spaces in front of a piece change nothing. -/
theorem keep_front (k c : Nat) (t : List UInt8) : keepP (cut c (List.replicate k 32) t) = keepP (cut c [] t) := by
  rw [cut_acc]
  cases h : cut c [] t with
  | nil => exact absurd h (cut_ne _ _ _)
  | cons p ps =>
    simp only
    rw [keepP_cons, keepP_cons]
    have e : tri (List.replicate k 32 ++ p) = tri p := by
      obtain ⟨a, m, h | h⟩ := split_tri p
      · rw [h.1, h.2, List.replicate_append_replicate, tri_sp]
      · have h1 := tri_sent h.1 (k + a) m
        rw [← List.replicate_append_replicate, List.append_assoc, List.append_assoc] at h1
        rw [List.append_assoc] at h
        rw [← h.2] at h1
        exact h1
    rw [e]
/-- A closed sentence at the front: it is the first, whatever comes behind the space. -/
theorem sent_step {s : List UInt8} (h : Sent s true) (k : Nat) (t : List UInt8) (hk : 1 ≤ k) : sentP (s ++ (List.replicate k 32 ++ t)) = s :: sentP t := by
  obtain ⟨ht, hc⟩ := h
  obtain ⟨k, rfl⟩ : ∃ j, k = j + 1 := ⟨k - 1, by omega⟩
  have e : List.replicate (k + 1) 32 ++ t = (32 : UInt8) :: (List.replicate k 32 ++ t) := by rw [List.replicate_succ]; rfl
  obtain ⟨c', h1⟩ := cut_closed s 0 [] s (List.replicate k 32 ++ t) hc ht.1
  unfold sentP
  rw [e, h1, ← e, keepP_cons]
  have := tri_sent ht 0 0
  simp only [List.replicate_zero, List.nil_append, List.append_nil] at this
  rw [this, if_neg ht.1, sp_zero _ _ _ (by omega), keep_front]
theorem sent_last {s : List UInt8} {cl : Bool} (h : Sent s cl) (k : Nat) : sentP (s ++ List.replicate k 32) = [s] := by
  obtain ⟨ht, hc⟩ := h
  obtain ⟨ps, p, h1, h2⟩ := cut_tail k 0 [] s
  unfold sentP
  rw [h2]
  have h3 := tri_sent ht 0 0
  simp only [List.replicate_zero, List.nil_append, List.append_nil] at h3
  cases cl with
  | true =>
    rw [hc, if_pos rfl] at h1
    have : ps = [s] ∧ p = [] := by
      rcases ps with _ | ⟨q, _ | ⟨q2, ps⟩⟩
      · simp at h1
      · simp at h1; exact ⟨by rw [h1.1], h1.2⟩
      · simp at h1
    rw [this.1, this.2, List.nil_append, List.singleton_append, keepP_cons, h3, if_neg ht.1, keepP_cons, tri_sp, if_pos rfl]
    rfl
  | false =>
    rw [hc, if_neg (by simp)] at h1
    have : ps = [] ∧ p = s := by
      rcases ps with _ | ⟨q, ps⟩
      · simp at h1; exact ⟨rfl, h1.symm⟩
      · simp at h1
    rw [this.1, this.2, List.nil_append, keepP_cons]
    have h4 := tri_sent ht 0 k
    simp only [List.replicate_zero, List.nil_append] at h4
    rw [h4, if_neg ht.1]
    rfl
theorem sent_spaces (k : Nat) : sentP (List.replicate k 32) = [] := by
  cases k with
  | zero => simp [sentP, cut, keepP, tri, triR, triL, full]
  | succ k =>
    have := sp_zero 0 (k + 1) [] (by omega)
    rw [List.append_nil] at this
    unfold sentP
    rw [this]
    unfold cut
    rw [keepP_cons, tri_sp, if_pos rfl]
    rfl
theorem sent_lead (k : Nat) (t : List UInt8) : sentP (List.replicate k 32 ++ t) = sentP t := by
  cases k with
  | zero => rfl
  | succ k => unfold sentP; rw [sp_zero _ _ _ (by omega), keep_front]

/-- Every sentence but the last is closed. -/
inductive Sents : List (List UInt8) → Prop
  | nil : Sents []
  | one {s : List UInt8} {cl : Bool} (h : Sent s cl) : Sents [s]
  | cons {s m : List UInt8} {r : List (List UInt8)} (h : Sent s true) (k : Sents (m :: r)) : Sents (s :: m :: r)
theorem sents_join {l : List (List UInt8)} (h : Sents l) : sentP (joinP l) = l := by
  induction h with
  | nil => exact sent_spaces 0
  | one h => have := sent_last h 0; simpa [joinP] using this
  | @cons s m r h k ih =>
    have := sent_step h 1 (joinP (m :: r)) (by omega)
    rw [ih] at this
    exact this
theorem nxt_sp (c : Nat) : nxt c 32 = 0 := by simp [nxt]
/-- The piece before the first end: what is cut of it alone. -/
theorem cut_first : ∀ (t : List UInt8) (c : Nat) (acc p q : List UInt8) (ps : List (List UInt8)), cut c acc t = p :: q :: ps → ∃ u v, t = u ++ v ∧ u ≠ [] ∧ p = acc ++ u ∧ cut c acc u = [p, []] ∧ (v = [] ∨ v.head? = some 32) ∧ ∃ c', q :: ps = cut c' [] v
  | [], c, acc, p, q, ps, h => by simp [cut] at h
  | b :: r, c, acc, p, q, ps, h => by
    unfold cut at h
    by_cases he : enB c b r = true
    · rw [if_pos he] at h
      have h1 := (List.cons.inj h).1
      have h2 := (List.cons.inj h).2
      have he' : enB c b [] = true := by
        unfold enB at he ⊢
        simp only [Bool.and_eq_true] at he ⊢
        exact ⟨he.1, by simp⟩
      refine ⟨[b], r, rfl, by simp, h1.symm, ?_, ?_, nxt c b, h2.symm⟩
      · unfold cut; rw [if_pos he', h1]; simp [cut]
      · unfold enB at he
        simp only [Bool.and_eq_true, Bool.or_eq_true, decide_eq_true_eq] at he
        exact he.2
    · rw [if_neg he] at h
      obtain ⟨u, v, rfl, hu, hp, h3, h4, h5⟩ := cut_first r (nxt c b) (acc ++ [b]) p q ps h
      refine ⟨b :: u, v, rfl, by simp, by rw [hp]; simp, ?_, h4, h5⟩
      have he' : enB c b u = false := by
        cases u with
        | nil => exact absurd rfl hu
        | cons x u =>
          have : enB c b ((x :: u) ++ v) = enB c b (x :: u) := by simp [enB]
          rw [this] at he
          simpa using he
      unfold cut
      rw [he', if_neg (by simp), h3]
theorem cut_lead (k : Nat) (s : List UInt8) : cut 0 [] (List.replicate k 32 ++ s) = cut 0 (List.replicate k 32) s := by
  cases k with
  | zero => rfl
  | succ k => exact cut_sp (k + 1) 0 [] s (by omega)
/-- A piece cut in the state 0: its core is a closed sentence. -/
theorem sent_of_first {u : List UInt8} (hu : cut 0 [] u = [u, []]) (_ : u ≠ []) : Sent (tri u) true := by
  obtain ⟨k, m, ⟨h0, h1⟩ | ⟨h0, h1⟩⟩ := split_tri u
  · rw [h1] at hu
    have := cut_lead k []
    rw [List.append_nil] at this
    rw [this] at hu
    simp [cut] at hu
  · refine ⟨h0, ?_⟩
    rw [if_pos rfl]
    generalize tri u = s at *
    rw [h1] at hu
    rw [List.append_assoc, cut_lead k] at hu
    obtain ⟨ps, p, h2, h3⟩ := cut_tail m 0 (List.replicate k 32) s
    rw [h3] at hu
    rcases ps with _ | ⟨q, _ | ⟨q2, ps⟩⟩
    · simp at hu
    · simp at hu
      obtain ⟨hq, hp, hm⟩ := hu
      subst hm hp
      rw [List.replicate_zero, List.append_nil] at hq
      rw [cut_acc] at h2
      cases e : cut 0 [] s with
      | nil => exact absurd e (cut_ne _ _ _)
      | cons a as =>
        rw [e] at h2
        simp only [List.cons_append, List.nil_append] at h2
        have h4 := (List.cons.inj h2).1
        rw [hq] at h4
        rw [List.append_cancel_left h4, (List.cons.inj h2).2]
    · simp at hu
theorem sent_of_only {u : List UInt8} (hu : cut 0 [] u = [u]) (hne : tri u ≠ []) : Sent (tri u) false := by
  obtain ⟨k, m, ⟨h0, _⟩ | ⟨h0, h1⟩⟩ := split_tri u
  · exact absurd h0 hne
  · refine ⟨h0, ?_⟩
    rw [if_neg (by simp)]
    generalize tri u = s at *
    rw [h1] at hu
    rw [List.append_assoc, cut_lead k] at hu
    obtain ⟨ps, p, h2, h3⟩ := cut_tail m 0 (List.replicate k 32) s
    rw [h3] at hu
    rcases ps with _ | ⟨q, ps⟩
    · simp only [List.nil_append, List.cons.injEq, and_true] at hu h2
      rw [← List.append_assoc] at hu
      have h5 := List.append_cancel_right hu
      rw [cut_acc] at h2
      cases e : cut 0 [] s with
      | nil => exact absurd e (cut_ne _ _ _)
      | cons a as =>
        rw [e] at h2
        have h4 := (List.cons.inj h2).1
        rw [h5] at h4
        rw [List.append_cancel_left h4, (List.cons.inj h2).2]
    · simp at hu
theorem cut_state (c : Nat) (v : List UInt8) (h : v = [] ∨ v.head? = some 32) : cut c [] v = cut 0 [] v := by
  cases v with
  | nil => rfl
  | cons b r =>
    rcases h with h | h
    · simp at h
    · simp at h
      subst h
      have h1 := cut_sp 1 c [] r (by omega)
      have h2 := cut_sp 1 0 [] r (by omega)
      exact h1.trans h2.symm
theorem cut_one {c : Nat} {acc t p : List UInt8} (h : cut c acc t = [p]) : p = acc ++ t := by
  have := cut_flat c acc t
  rw [h] at this
  simpa using this
/-- What a text is divided into. -/
theorem sents_of (n : Nat) : ∀ t : List UInt8, t.length ≤ n → Sents (sentP t) := by
  induction n with
  | zero => intro t h; obtain rfl := List.length_eq_zero_iff.1 (Nat.le_zero.1 h); rw [show sentP [] = [] from sent_spaces 0]; exact .nil
  | succ n ih =>
    intro t h
    cases e : cut 0 [] t with
    | nil => exact absurd e (cut_ne _ _ _)
    | cons p ps =>
      cases ps with
      | nil =>
        have hp := cut_one e
        rw [List.nil_append] at hp
        subst hp
        unfold sentP
        rw [e, keepP_cons]
        by_cases h0 : tri p = []
        · rw [if_pos h0]; exact .nil
        · rw [if_neg h0]; exact .one (sent_of_only e h0)
      | cons q ps =>
        obtain ⟨u, v, rfl, hu, hp, h1, h2, c', h3⟩ := cut_first t 0 [] p q ps e
        rw [List.nil_append] at hp
        subst hp
        have hs := sent_of_first h1 hu
        have h4 : q :: ps = cut 0 [] v := by rw [h3, cut_state c' v h2]
        have hv : Sents (sentP v) := ih v (by have := List.length_pos_iff.2 hu; simp at h; omega)
        unfold sentP at hv ⊢
        rw [e, keepP_cons, if_neg hs.1.1, h4]
        cases e2 : keepP (cut 0 [] v) with
        | nil => exact .one hs
        | cons m r => rw [e2] at hv; exact .cons hs hv
theorem sents_again (t : List UInt8) : sentP (joinP (sentP t)) = sentP t := sents_join (sents_of t.length t (Nat.le_refl _))
theorem sents_tidy {l : List (List UInt8)} (h : Sents l) : ∀ s ∈ l, Tidy s := by
  induction h with
  | nil => simp
  | one h => simpa using h.1
  | cons h k ih => intro s hs; rcases List.mem_cons.1 hs with rfl | hs; exact h.1; exact ih s hs
theorem sentP_tidy (t : List UInt8) : ∀ s ∈ sentP t, Tidy s := sents_tidy (sents_of t.length t (Nat.le_refl _))
theorem bare_tri (l : List UInt8) : bareP (tri l) = bareP l := by
  have hsp : ∀ k, bareP (List.replicate k 32) = [] := by intro k; simp [bareP]
  obtain ⟨k, m, ⟨h0, h1⟩ | ⟨_, h1⟩⟩ := split_tri l
  · rw [h0, h1, hsp]; rfl
  · conv => rhs; rw [h1]
    have e : ∀ a b : List UInt8, bareP (a ++ b) = bareP a ++ bareP b := by intro a b; simp [bareP]
    rw [e, e, hsp, hsp]; simp
theorem bare_keep (ps : List (List UInt8)) : ((keepP ps).map bareP).flatten = bareP ps.flatten := by
  induction ps with
  | nil => rfl
  | cons p ps ih =>
    rw [keepP_cons]
    have e : bareP ((p :: ps).flatten) = bareP p ++ bareP ps.flatten := by simp [bareP]
    rw [e, ← ih, ← bare_tri p]
    split
    · rename_i h; rw [h]; rfl
    · simp
/-- Without their spaces, the sentences are the text. -/
theorem sentP_bare (t : List UInt8) : ((sentP t).map bareP).flatten = bareP t := by
  unfold sentP
  rw [bare_keep, cut_flat, List.nil_append]
end Go.Proofs.YtdhioalfgogcdaaGreatDoor
