/- Package fact: lists of facts. -/
import Derived.Test.YtlhcckjfgpcohaaGreatDoorU1
import Derived.Deep.MidRow
namespace Go.Proofs.YtlhcckjfgpcohaaGreatDoor
open Go.RowKit
set_option maxRecDepth 100000
set_option linter.unusedSimpArgs false
set_option linter.unusedVariables false
/-- A slice of facts. -/
def IsFs (w : World) (a : Option Addr) (n c : Nat) (es : List FE) : Prop :=
  es.length = n ∧ n ≤ c ∧ c ≤ maxLen ∧ (∀ e ∈ es, FeOk w e) ∧ (n = 0 ∨ ∃ b off, a = some ⟨b, off, none⟩ ∧ ∀ k e, es[k]? = some e → w.rangeAt b (off + k * 23) (elF e))
theorem IsFs.over {w w' : World} {a : Option Addr} {n c : Nat} {es : List FE} (hb : Below w.heap.size w w') (h : IsFs w a n c es) : IsFs w' a n c es := by
  obtain ⟨h1, h2, h3, h4, h5⟩ := h
  refine ⟨h1, h2, h3, fun e he => (h4 e he).over hb, h5.imp id ?_⟩
  rintro ⟨b, off, e, hc⟩
  exact ⟨b, off, e, fun k e he j v hv => cellOver hb (hc k e he j v hv)⟩
def sFs : List Fct → List Fct → Bool
  | [], [] => true
  | x :: l, y :: m => sF x y && sFs l m
  | _, _ => false
theorem sFs_len : ∀ {l m : List Fct}, l.length ≠ m.length → sFs l m = false
  | [], [], h => absurd rfl h
  | [], _ :: _, _ => rfl
  | _ :: _, [], _ => rfl
  | x :: l, y :: m, h => by
    unfold sFs
    rw [sFs_len (l := l) (m := m) (fun q => h (by simp [q]))]
    simp
theorem sFs_no : ∀ {l m : List Fct} {k : Nat} {x y : Fct}, l[k]? = some x → m[k]? = some y → sF x y = false → sFs l m = false
  | [], _, k, x, y, h, _, _ => by simp at h
  | _ :: _, [], k, x, y, _, h, _ => by simp at h
  | a :: l, b :: m, 0, x, y, h1, h2, h3 => by
    simp only [List.getElem?_cons_zero, Option.some.injEq] at h1 h2
    subst h1 h2
    unfold sFs
    rw [h3]; rfl
  | a :: l, b :: m, k + 1, x, y, h1, h2, h3 => by
    simp only [List.getElem?_cons_succ] at h1 h2
    unfold sFs
    rw [sFs_no h1 h2 h3]
    simp
theorem sFs_yes : ∀ {l m : List Fct}, l.length = m.length → (∀ (k : Nat) (x y : Fct), l[k]? = some x → m[k]? = some y → sF x y = true) → sFs l m = true
  | [], [], _, _ => rfl
  | [], _ :: _, h, _ => by simp at h
  | _ :: _, [], h, _ => by simp at h
  | a :: l, b :: m, h, hx => by
    unfold sFs
    rw [hx 0 a b rfl rfl, sFs_yes (by simpa using h) (fun k x y h1 h2 => hx (k + 1) x y (by simpa using h1) (by simpa using h2))]
    rfl
theorem wpList_loadF {ops : Array Oper} {rest : List Oper} {op : Oper} {a : Act} {W : World} {Q : Exit → Act → World → Prop} (x : Operand) (b o : Nat) (e : FE) (F : W.rangeAt b o (elF e)) (hgd : op.guard = none) (ho : op.op = .load 28 x)
    (hx : a.eval x = .pointer (some ⟨b, o, none⟩)) (h : wpList Tryz.prog ops Q rest (a.put op.dst (.agg #[.int .i64 e.f.n, .int .i64 e.f.tm, .int .i64 e.f.kd, .int .i64 e.f.st, .string ⟨e.f.lg.toArray⟩, .int .i64 e.f.rv, .int .i64 e.f.bs, .string ⟨e.f.ti.toArray⟩, .string ⟨e.f.au.toArray⟩, .slice e.ta e.tn e.tc, .slice e.ba e.bn e.bc, .int .i64 e.f.lb.u, .slice e.la e.ln e.lc, .int .i64 e.f.lb.ap, .int .i64 e.f.lb.d, .int .i64 e.f.ed, .int .i64 e.f.bk, .int .i64 e.f.se, .string ⟨e.f.tx.toArray⟩, .string ⟨e.f.nm.toArray⟩, .int .i64 e.f.pt, .int .i64 e.f.cl, .int .i64 e.f.un])) W) : wpList Tryz.prog ops Q (op :: rest) a W :=
  wpList_load_mid hgd 28 x ho b o hx (elF e) _ F Tryz.underlying28 rfl (by kernel_rfl) h
theorem wpList_storeG {ops : Array Oper} {rest : List Oper} {op : Oper} {a : Act} {W : World} {Q : Exit → Act → World → Prop} (g : Nat) (hg : g = W.heap.size) (x y : Operand) (d e : FE) (hgd : op.guard = none) (ho : op.op = .store 28 x y)
    (hx : a.eval x = .pointer (some ⟨g, 0, none⟩)) (hy : a.eval y = .agg #[.int .i64 e.f.n, .int .i64 e.f.tm, .int .i64 e.f.kd, .int .i64 e.f.st, .string ⟨e.f.lg.toArray⟩, .int .i64 e.f.rv, .int .i64 e.f.bs, .string ⟨e.f.ti.toArray⟩, .string ⟨e.f.au.toArray⟩, .slice e.ta e.tn e.tc, .slice e.ba e.bn e.bc, .int .i64 e.f.lb.u, .slice e.la e.ln e.lc, .int .i64 e.f.lb.ap, .int .i64 e.f.lb.d, .int .i64 e.f.ed, .int .i64 e.f.bk, .int .i64 e.f.se, .string ⟨e.f.tx.toArray⟩, .string ⟨e.f.nm.toArray⟩, .int .i64 e.f.pt, .int .i64 e.f.cl, .int .i64 e.f.un]) (h : wpList Tryz.prog ops Q rest (a.put op.dst undef) (W.alloc (.cells #[.int .i64 e.f.n, .int .i64 e.f.tm, .int .i64 e.f.kd, .int .i64 e.f.st, .string ⟨e.f.lg.toArray⟩, .int .i64 e.f.rv, .int .i64 e.f.bs, .string ⟨e.f.ti.toArray⟩, .string ⟨e.f.au.toArray⟩, .slice e.ta e.tn e.tc, .slice e.ba e.bn e.bc, .int .i64 e.f.lb.u, .slice e.la e.ln e.lc, .int .i64 e.f.lb.ap, .int .i64 e.f.lb.d, .int .i64 e.f.ed, .int .i64 e.f.bk, .int .i64 e.f.se, .string ⟨e.f.tx.toArray⟩, .string ⟨e.f.nm.toArray⟩, .int .i64 e.f.pt, .int .i64 e.f.cl, .int .i64 e.f.un] 28))) :
    wpList Tryz.prog ops Q (op :: rest) a (W.alloc (.cells (elF d).toArray 28)) := by
  subst hg
  exact wpList_store28 x y d e hgd ho hx hy h
set_option maxHeartbeats 8000000 in
theorem eqfacts (a : Option Addr) (n c : Nat) (es : List FE) (a2 : Option Addr) (n2 c2 : Nat) (fs : List FE) (w : World) (h : IsFs w a n c es) (h2 : IsFs w a2 n2 c2 fs) :
    Calls Tryz.prog 31 #[.slice a n c, .slice a2 n2 c2, .func (.func 15) #[] #[]] w fun r w' => r = .returned (.bool (sFs (es.map FE.f) (fs.map FE.f))) ∧ Below w.heap.size w w' := by
  have hnc := h.2.1
  have hcm := h.2.2.1
  have hnc2 := h2.2.1
  have hcm2 := h2.2.2.1
  unfold maxLen at hcm hcm2
  have HL := Lib.hid h.1
  have HL2 := Lib.hid h2.1
  have H := Lib.hid h
  have H2 := Lib.hid h2
  clear h h2
  by_cases hn : n = n2
  · subst hn
    go_enter Tryz.func31, Tryz.ntmps31
    go_wp2_with fail
    go_loopw [17, 7, 8, 9] (fun i _ _ _ wr => ∃ k : Nat, k ≤ n ∧ i = .int .i64 k ∧ Hid (∀ (j : Nat) (x y : FE), j < k → es[j]? = some x → fs[j]? = some y → sF x.f y.f = true) ∧ Hid (Below w.heap.size w wr)) (fun i _ _ _ _ => n - (intOf i).toNat)
    case atStart => exact ⟨0, Nat.zero_le _, rfl, Lib.hid (fun j x y hj => absurd hj (Nat.not_lt_zero _)), Lib.hid (Below.refl _ _)⟩
    case round =>
      obtain ⟨k, hk, rfl, hall, bw⟩ := hrel
      by_cases hlt : k < n
      · obtain ⟨e, he⟩ : ∃ e, es[k]? = some e := ⟨es[k]'(by rw [HL.out]; exact hlt), List.getElem?_eq_getElem _⟩
        obtain ⟨d, hd⟩ : ∃ d, fs[k]? = some d := ⟨fs[k]'(by rw [HL2.out]; exact hlt), List.getElem?_eq_getElem _⟩
        obtain ⟨-, -, -, ok1, r1'⟩ := H.out.over bw.out
        obtain ⟨-, -, -, ok2, r2'⟩ := H2.out.over bw.out
        obtain ⟨b, off, rfl, r1⟩ := r1'.resolve_left (by omega)
        obtain ⟨b2, off2, rfl, r2⟩ := r2'.resolve_left (by omega)
        have R1 := Lib.hid (r1 k e he)
        have ba := below_alloc wr (.cells #[.int .i64 e.f.n, .int .i64 e.f.tm, .int .i64 e.f.kd, .int .i64 e.f.st, .string ⟨e.f.lg.toArray⟩, .int .i64 e.f.rv, .int .i64 e.f.bs, .string ⟨e.f.ti.toArray⟩, .string ⟨e.f.au.toArray⟩, .slice e.ta e.tn e.tc, .slice e.ba e.bn e.bc, .int .i64 e.f.lb.u, .slice e.la e.ln e.lc, .int .i64 e.f.lb.ap, .int .i64 e.f.lb.d, .int .i64 e.f.ed, .int .i64 e.f.bk, .int .i64 e.f.se, .string ⟨e.f.tx.toArray⟩, .string ⟨e.f.nm.toArray⟩, .int .i64 e.f.pt, .int .i64 e.f.cl, .int .i64 e.f.un] 28)
        have R2 : Hid ((wr.alloc (.cells #[.int .i64 e.f.n, .int .i64 e.f.tm, .int .i64 e.f.kd, .int .i64 e.f.st, .string ⟨e.f.lg.toArray⟩, .int .i64 e.f.rv, .int .i64 e.f.bs, .string ⟨e.f.ti.toArray⟩, .string ⟨e.f.au.toArray⟩, .slice e.ta e.tn e.tc, .slice e.ba e.bn e.bc, .int .i64 e.f.lb.u, .slice e.la e.ln e.lc, .int .i64 e.f.lb.ap, .int .i64 e.f.lb.d, .int .i64 e.f.ed, .int .i64 e.f.bk, .int .i64 e.f.se, .string ⟨e.f.tx.toArray⟩, .string ⟨e.f.nm.toArray⟩, .int .i64 e.f.pt, .int .i64 e.f.cl, .int .i64 e.f.un] 28)).rangeAt b2 (off2 + k * 23) (elF d)) := Lib.hid (fun j v hv => cellOver ba (r2 k d hd j v hv))
        have bb := below_alloc (wr.alloc (.cells #[.int .i64 e.f.n, .int .i64 e.f.tm, .int .i64 e.f.kd, .int .i64 e.f.st, .string ⟨e.f.lg.toArray⟩, .int .i64 e.f.rv, .int .i64 e.f.bs, .string ⟨e.f.ti.toArray⟩, .string ⟨e.f.au.toArray⟩, .slice e.ta e.tn e.tc, .slice e.ba e.bn e.bc, .int .i64 e.f.lb.u, .slice e.la e.ln e.lc, .int .i64 e.f.lb.ap, .int .i64 e.f.lb.d, .int .i64 e.f.ed, .int .i64 e.f.bk, .int .i64 e.f.se, .string ⟨e.f.tx.toArray⟩, .string ⟨e.f.nm.toArray⟩, .int .i64 e.f.pt, .int .i64 e.f.cl, .int .i64 e.f.un] 28)) (.cells #[.int .i64 d.f.n, .int .i64 d.f.tm, .int .i64 d.f.kd, .int .i64 d.f.st, .string ⟨d.f.lg.toArray⟩, .int .i64 d.f.rv, .int .i64 d.f.bs, .string ⟨d.f.ti.toArray⟩, .string ⟨d.f.au.toArray⟩, .slice d.ta d.tn d.tc, .slice d.ba d.bn d.bc, .int .i64 d.f.lb.u, .slice d.la d.ln d.lc, .int .i64 d.f.lb.ap, .int .i64 d.f.lb.d, .int .i64 d.f.ed, .int .i64 d.f.bk, .int .i64 d.f.se, .string ⟨d.f.tx.toArray⟩, .string ⟨d.f.nm.toArray⟩, .int .i64 d.f.pt, .int .i64 d.f.cl, .int .i64 d.f.un] 28)
        have F1 : Hid (FcAt ((wr.alloc (.cells #[.int .i64 e.f.n, .int .i64 e.f.tm, .int .i64 e.f.kd, .int .i64 e.f.st, .string ⟨e.f.lg.toArray⟩, .int .i64 e.f.rv, .int .i64 e.f.bs, .string ⟨e.f.ti.toArray⟩, .string ⟨e.f.au.toArray⟩, .slice e.ta e.tn e.tc, .slice e.ba e.bn e.bc, .int .i64 e.f.lb.u, .slice e.la e.ln e.lc, .int .i64 e.f.lb.ap, .int .i64 e.f.lb.d, .int .i64 e.f.ed, .int .i64 e.f.bk, .int .i64 e.f.se, .string ⟨e.f.tx.toArray⟩, .string ⟨e.f.nm.toArray⟩, .int .i64 e.f.pt, .int .i64 e.f.cl, .int .i64 e.f.un] 28)).alloc (.cells #[.int .i64 d.f.n, .int .i64 d.f.tm, .int .i64 d.f.kd, .int .i64 d.f.st, .string ⟨d.f.lg.toArray⟩, .int .i64 d.f.rv, .int .i64 d.f.bs, .string ⟨d.f.ti.toArray⟩, .string ⟨d.f.au.toArray⟩, .slice d.ta d.tn d.tc, .slice d.ba d.bn d.bc, .int .i64 d.f.lb.u, .slice d.la d.ln d.lc, .int .i64 d.f.lb.ap, .int .i64 d.f.lb.d, .int .i64 d.f.ed, .int .i64 d.f.bk, .int .i64 d.f.se, .string ⟨d.f.tx.toArray⟩, .string ⟨d.f.nm.toArray⟩, .int .i64 d.f.pt, .int .i64 d.f.cl, .int .i64 d.f.un] 28)) wr.heap.size e) := Lib.hid ((show FcAt (wr.alloc (.cells #[.int .i64 e.f.n, .int .i64 e.f.tm, .int .i64 e.f.kd, .int .i64 e.f.st, .string ⟨e.f.lg.toArray⟩, .int .i64 e.f.rv, .int .i64 e.f.bs, .string ⟨e.f.ti.toArray⟩, .string ⟨e.f.au.toArray⟩, .slice e.ta e.tn e.tc, .slice e.ba e.bn e.bc, .int .i64 e.f.lb.u, .slice e.la e.ln e.lc, .int .i64 e.f.lb.ap, .int .i64 e.f.lb.d, .int .i64 e.f.ed, .int .i64 e.f.bk, .int .i64 e.f.se, .string ⟨e.f.tx.toArray⟩, .string ⟨e.f.nm.toArray⟩, .int .i64 e.f.pt, .int .i64 e.f.cl, .int .i64 e.f.un] 28)) wr.heap.size e from heap_alloc_new wr _).over bb)
        have F2 : Hid (FcAt ((wr.alloc (.cells #[.int .i64 e.f.n, .int .i64 e.f.tm, .int .i64 e.f.kd, .int .i64 e.f.st, .string ⟨e.f.lg.toArray⟩, .int .i64 e.f.rv, .int .i64 e.f.bs, .string ⟨e.f.ti.toArray⟩, .string ⟨e.f.au.toArray⟩, .slice e.ta e.tn e.tc, .slice e.ba e.bn e.bc, .int .i64 e.f.lb.u, .slice e.la e.ln e.lc, .int .i64 e.f.lb.ap, .int .i64 e.f.lb.d, .int .i64 e.f.ed, .int .i64 e.f.bk, .int .i64 e.f.se, .string ⟨e.f.tx.toArray⟩, .string ⟨e.f.nm.toArray⟩, .int .i64 e.f.pt, .int .i64 e.f.cl, .int .i64 e.f.un] 28)).alloc (.cells #[.int .i64 d.f.n, .int .i64 d.f.tm, .int .i64 d.f.kd, .int .i64 d.f.st, .string ⟨d.f.lg.toArray⟩, .int .i64 d.f.rv, .int .i64 d.f.bs, .string ⟨d.f.ti.toArray⟩, .string ⟨d.f.au.toArray⟩, .slice d.ta d.tn d.tc, .slice d.ba d.bn d.bc, .int .i64 d.f.lb.u, .slice d.la d.ln d.lc, .int .i64 d.f.lb.ap, .int .i64 d.f.lb.d, .int .i64 d.f.ed, .int .i64 d.f.bk, .int .i64 d.f.se, .string ⟨d.f.tx.toArray⟩, .string ⟨d.f.nm.toArray⟩, .int .i64 d.f.pt, .int .i64 d.f.cl, .int .i64 d.f.un] 28)) (wr.heap.size + 1) d) := Lib.hid (by have q := heap_alloc_new (wr.alloc (.cells #[.int .i64 e.f.n, .int .i64 e.f.tm, .int .i64 e.f.kd, .int .i64 e.f.st, .string ⟨e.f.lg.toArray⟩, .int .i64 e.f.rv, .int .i64 e.f.bs, .string ⟨e.f.ti.toArray⟩, .string ⟨e.f.au.toArray⟩, .slice e.ta e.tn e.tc, .slice e.ba e.bn e.bc, .int .i64 e.f.lb.u, .slice e.la e.ln e.lc, .int .i64 e.f.lb.ap, .int .i64 e.f.lb.d, .int .i64 e.f.ed, .int .i64 e.f.bk, .int .i64 e.f.se, .string ⟨e.f.tx.toArray⟩, .string ⟨e.f.nm.toArray⟩, .int .i64 e.f.pt, .int .i64 e.f.cl, .int .i64 e.f.un] 28)) (.cells #[.int .i64 d.f.n, .int .i64 d.f.tm, .int .i64 d.f.kd, .int .i64 d.f.st, .string ⟨d.f.lg.toArray⟩, .int .i64 d.f.rv, .int .i64 d.f.bs, .string ⟨d.f.ti.toArray⟩, .string ⟨d.f.au.toArray⟩, .slice d.ta d.tn d.tc, .slice d.ba d.bn d.bc, .int .i64 d.f.lb.u, .slice d.la d.ln d.lc, .int .i64 d.f.lb.ap, .int .i64 d.f.lb.d, .int .i64 d.f.ed, .int .i64 d.f.bk, .int .i64 d.f.se, .string ⟨d.f.tx.toArray⟩, .string ⟨d.f.nm.toArray⟩, .int .i64 d.f.pt, .int .i64 d.f.cl, .int .i64 d.f.un] 28); rw [show (wr.alloc (.cells #[.int .i64 e.f.n, .int .i64 e.f.tm, .int .i64 e.f.kd, .int .i64 e.f.st, .string ⟨e.f.lg.toArray⟩, .int .i64 e.f.rv, .int .i64 e.f.bs, .string ⟨e.f.ti.toArray⟩, .string ⟨e.f.au.toArray⟩, .slice e.ta e.tn e.tc, .slice e.ba e.bn e.bc, .int .i64 e.f.lb.u, .slice e.la e.ln e.lc, .int .i64 e.f.lb.ap, .int .i64 e.f.lb.d, .int .i64 e.f.ed, .int .i64 e.f.bk, .int .i64 e.f.se, .string ⟨e.f.tx.toArray⟩, .string ⟨e.f.nm.toArray⟩, .int .i64 e.f.pt, .int .i64 e.f.cl, .int .i64 e.f.un] 28)).heap.size = wr.heap.size + 1 by simp] at q; exact q)
        have BB := Lib.hid (bel2 (bel2 bw.out ba) bb)
        have KS := Lib.hid (same5 e d ((wr.alloc (.cells #[.int .i64 e.f.n, .int .i64 e.f.tm, .int .i64 e.f.kd, .int .i64 e.f.st, .string ⟨e.f.lg.toArray⟩, .int .i64 e.f.rv, .int .i64 e.f.bs, .string ⟨e.f.ti.toArray⟩, .string ⟨e.f.au.toArray⟩, .slice e.ta e.tn e.tc, .slice e.ba e.bn e.bc, .int .i64 e.f.lb.u, .slice e.la e.ln e.lc, .int .i64 e.f.lb.ap, .int .i64 e.f.lb.d, .int .i64 e.f.ed, .int .i64 e.f.bk, .int .i64 e.f.se, .string ⟨e.f.tx.toArray⟩, .string ⟨e.f.nm.toArray⟩, .int .i64 e.f.pt, .int .i64 e.f.cl, .int .i64 e.f.un] 28)).alloc (.cells #[.int .i64 d.f.n, .int .i64 d.f.tm, .int .i64 d.f.kd, .int .i64 d.f.st, .string ⟨d.f.lg.toArray⟩, .int .i64 d.f.rv, .int .i64 d.f.bs, .string ⟨d.f.ti.toArray⟩, .string ⟨d.f.au.toArray⟩, .slice d.ta d.tn d.tc, .slice d.ba d.bn d.bc, .int .i64 d.f.lb.u, .slice d.la d.ln d.lc, .int .i64 d.f.lb.ap, .int .i64 d.f.lb.d, .int .i64 d.f.ed, .int .i64 d.f.bk, .int .i64 d.f.se, .string ⟨d.f.tx.toArray⟩, .string ⟨d.f.nm.toArray⟩, .int .i64 d.f.pt, .int .i64 d.f.cl, .int .i64 d.f.un] 28)) (((ok1 e (List.mem_of_getElem? he)).over ba).over bb) (((ok2 d (List.mem_of_getElem? hd)).over ba).over bb))
        have HE := Lib.hid he
        have HD := Lib.hid hd
        clear r1 r2 r1' r2' ok1 ok2 ba bb he hd bw
        have hltn : (k : Int) < n := by omega
        go_wp2_with (first | (refine wpList_loadF _ b (off + k * 23) e R1.out rfl rfl rfl ?_) | (refine wpList_loadF _ b2 (off2 + k * 23) d R2.out rfl rfl rfl ?_) | (refine wpList_store28 _ _ zE e rfl rfl rfl rfl ?_) | (refine wpList_storeG (wr.heap.size + 1) (by simp) _ _ zE d rfl rfl rfl rfl ?_) | (refine wpList_load28 _ wr.heap.size e F1.out rfl rfl rfl ?_) | (refine wpList_load28 _ (wr.heap.size + 1) d F2.out rfl rfl rfl ?_))
        cases hv : sF e.f d.f
        · have HV : Hid (sFs (es.map FE.f) (fs.map FE.f) = false) := Lib.hid (sFs_no (k := k) (by rw [List.getElem?_map, HE.out]; rfl) (by rw [List.getElem?_map, HD.out]; rfl) hv)
          rw [hv] at KS
          clear hv
          refine (show Calls _ _ #[.agg #[.int .i64 e.f.n, .int .i64 e.f.tm, .int .i64 e.f.kd, .int .i64 e.f.st, .string ⟨e.f.lg.toArray⟩, .int .i64 e.f.rv, .int .i64 e.f.bs, .string ⟨e.f.ti.toArray⟩, .string ⟨e.f.au.toArray⟩, .slice e.ta e.tn e.tc, .slice e.ba e.bn e.bc, .int .i64 e.f.lb.u, .slice e.la e.ln e.lc, .int .i64 e.f.lb.ap, .int .i64 e.f.lb.d, .int .i64 e.f.ed, .int .i64 e.f.bk, .int .i64 e.f.se, .string ⟨e.f.tx.toArray⟩, .string ⟨e.f.nm.toArray⟩, .int .i64 e.f.pt, .int .i64 e.f.cl, .int .i64 e.f.un], .agg #[.int .i64 d.f.n, .int .i64 d.f.tm, .int .i64 d.f.kd, .int .i64 d.f.st, .string ⟨d.f.lg.toArray⟩, .int .i64 d.f.rv, .int .i64 d.f.bs, .string ⟨d.f.ti.toArray⟩, .string ⟨d.f.au.toArray⟩, .slice d.ta d.tn d.tc, .slice d.ba d.bn d.bc, .int .i64 d.f.lb.u, .slice d.la d.ln d.lc, .int .i64 d.f.lb.ap, .int .i64 d.f.lb.d, .int .i64 d.f.ed, .int .i64 d.f.bk, .int .i64 d.f.se, .string ⟨d.f.tx.toArray⟩, .string ⟨d.f.nm.toArray⟩, .int .i64 d.f.pt, .int .i64 d.f.cl, .int .i64 d.f.un]] _ _ from KS.out).mono ?_
          rintro r w5 ⟨rfl, b5⟩
          have BZ := Lib.hid (bel2 BB.out b5)
          clear b5 KS F1 F2 R1 R2
          go_wp2_with fail
          go_ret
          exact ⟨ret_bool HV.out.symm, BZ.out⟩
        · have HV := Lib.hid hv
          rw [hv] at KS
          clear hv
          refine (show Calls _ _ #[.agg #[.int .i64 e.f.n, .int .i64 e.f.tm, .int .i64 e.f.kd, .int .i64 e.f.st, .string ⟨e.f.lg.toArray⟩, .int .i64 e.f.rv, .int .i64 e.f.bs, .string ⟨e.f.ti.toArray⟩, .string ⟨e.f.au.toArray⟩, .slice e.ta e.tn e.tc, .slice e.ba e.bn e.bc, .int .i64 e.f.lb.u, .slice e.la e.ln e.lc, .int .i64 e.f.lb.ap, .int .i64 e.f.lb.d, .int .i64 e.f.ed, .int .i64 e.f.bk, .int .i64 e.f.se, .string ⟨e.f.tx.toArray⟩, .string ⟨e.f.nm.toArray⟩, .int .i64 e.f.pt, .int .i64 e.f.cl, .int .i64 e.f.un], .agg #[.int .i64 d.f.n, .int .i64 d.f.tm, .int .i64 d.f.kd, .int .i64 d.f.st, .string ⟨d.f.lg.toArray⟩, .int .i64 d.f.rv, .int .i64 d.f.bs, .string ⟨d.f.ti.toArray⟩, .string ⟨d.f.au.toArray⟩, .slice d.ta d.tn d.tc, .slice d.ba d.bn d.bc, .int .i64 d.f.lb.u, .slice d.la d.ln d.lc, .int .i64 d.f.lb.ap, .int .i64 d.f.lb.d, .int .i64 d.f.ed, .int .i64 d.f.bk, .int .i64 d.f.se, .string ⟨d.f.tx.toArray⟩, .string ⟨d.f.nm.toArray⟩, .int .i64 d.f.pt, .int .i64 d.f.cl, .int .i64 d.f.un]] _ _ from KS.out).mono ?_
          rintro r w5 ⟨rfl, b5⟩
          have BZ := Lib.hid (bel2 BB.out b5)
          have HA : Hid (∀ (j : Nat) (x y : FE), j < k + 1 → es[j]? = some x → fs[j]? = some y → sF x.f y.f = true) := Lib.hid (fun j x y hj h1 h2 => by
            by_cases q : j < k
            · exact hall.out j x y q h1 h2
            · obtain rfl : j = k := by omega
              rw [HE.out] at h1
              rw [HD.out] at h2
              injection h1 with h1
              injection h2 with h2
              rw [← h1, ← h2]
              exact HV.out)
          clear b5 KS F1 F2 R1 R2
          go_wp2_with fail
          go_roundw
          case rel => exact ⟨k + 1, by omega, by go_num, HA, BZ⟩
          case measure => simp [intOf]; omega
      · obtain rfl : n = k := by omega
        have HV : Hid (sFs (es.map FE.f) (fs.map FE.f) = true) := Lib.hid (sFs_yes (by rw [List.length_map, List.length_map, HL.out, HL2.out]) (fun j x y h1 h2 => by
          rw [List.getElem?_map, Option.map_eq_some_iff] at h1 h2
          obtain ⟨x', h1, rfl⟩ := h1
          obtain ⟨y', h2, rfl⟩ := h2
          exact hall.out j x' y' (by rw [← HL.out]; exact (List.getElem?_eq_some_iff.1 h1).1) h1 h2))
        go_wp2
        go_ret
        exact ⟨ret_bool HV.out.symm, bw.out⟩
  · have HV : Hid (sFs (es.map FE.f) (fs.map FE.f) = false) := Lib.hid (sFs_len (by rw [List.length_map, List.length_map, HL.out, HL2.out]; exact hn))
    have hne : ((n : Int) != n2) = true := by simp; omega
    go_enter Tryz.func31, Tryz.ntmps31
    go_wp2
    go_ret
    exact ⟨ret_bool HV.out.symm, Below.refl _ _⟩
set_option maxHeartbeats 2000000 in
theorem samefacts (a : Option Addr) (n c : Nat) (es : List FE) (a2 : Option Addr) (n2 c2 : Nat) (fs : List FE) (w : World) (h : IsFs w a n c es) (h2 : IsFs w a2 n2 c2 fs) :
    Calls Tryz.prog 20 #[.slice a n c, .slice a2 n2 c2] w fun r w' => r = .returned (.bool (sFs (es.map FE.f) (fs.map FE.f))) ∧ Below w.heap.size w w' := by
  have K := Lib.hid (eqfacts a n c es a2 n2 c2 fs w h h2)
  clear h h2
  go_enter Tryz.func20, Tryz.ntmps20
  go_wp2_with fail
  refine K.out.mono ?_
  rintro r w1 ⟨rfl, b1⟩
  have B1 := Lib.hid b1
  clear b1
  go_wp2
  go_ret
  exact ⟨rfl, B1.out⟩
end Go.Proofs.YtlhcckjfgpcohaaGreatDoor
