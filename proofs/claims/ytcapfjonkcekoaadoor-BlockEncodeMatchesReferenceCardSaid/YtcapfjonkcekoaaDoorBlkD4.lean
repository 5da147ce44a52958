import Derived.Test.YtcapfjonkcekoaaDoorBlkD3
import Derived.Maps.AppendAt
namespace Go.Proofs.YtcapfjonkcekoaaDoor
open Go.RowKit Go.MapKept
set_option maxRecDepth 100000
set_option linter.unusedSimpArgs false
set_option linter.unusedVariables false
theorem readBlk_any (R : Nat) (s : ByteArray) (σ : Int × Int) (w : World) (hs : s.size ≤ maxLen) (h : RdAt w R s σ) :
    Calls Tryd.prog 61 #[.pointer (some ⟨R, 0, none⟩)] w (BlkGot R s (rdB s.data.toList σ) w) := by
  have hRw : R < w.heap.size := (Array.getElem?_eq_some_iff.1 h).1
  exact readBlk_walk R s w hRw _ _ _ _ _ _ _ _ _ σ _ _ _ _ _ _ _ _ _ h
    (Lib.hid fun W hW => readInt_any R s _ W hs hW) (Lib.hid fun W hW => readInt_any R s _ W hs hW) (Lib.hid fun W hW => readS_any R s _ W hs hW)
    (Lib.hid fun W hW => readInt_any R s _ W hs hW) (Lib.hid fun W hW => readInt_any R s _ W hs hW) (Lib.hid fun W hW => readInt_any R s _ W hs hW)
    (Lib.hid fun W hW => readLi_any R s 64 _ W hs (by decide) hW) (Lib.hid fun W hW => readInt_any R s _ W hs hW) (Lib.hid fun W hW => readInt_any R s _ W hs hW)
theorem strAt_len (s : List UInt8) (a : Int) : (strAt s a).1.length ≤ 65536 := by
  unfold strAt
  simp only
  split
  · split
    · simp
    · rename_i h
      simp only [List.length_take]
      omega
  · simp
theorem rdS_len (s : List UInt8) (σ : Int × Int) : (rdS s σ).1.length ≤ 65536 := by
  unfold rdS
  split
  · exact strAt_len _ _
  · simp
/-- The numbers of a block are machine integers. -/
def BlkBd (b : Blk) : Prop := Bd b.id ∧ Bd b.kd ∧ Bd b.st ∧ Bd b.rf ∧ Bd b.lb.u ∧ Bd b.lb.ap ∧ Bd b.lb.d ∧ b.tx.length ≤ 65536 ∧ ∀ z ∈ b.lb.af, Bd z
theorem rdB_bd (s : List UInt8) (σ : Int × Int) : BlkBd (rdB s σ).1 :=
  ⟨rdI_bd _ _, rdI_bd _ _, rdI_bd _ _, rdI_bd _ _, rdI_bd _ _, rdI_bd _ _, rdI_bd _ _, rdS_len _ _, rdLI_bd _ _ _⟩
theorem ints_of_own {w : World} {base : Nat} {a : Option Addr} {n c : Nat} {zs : List Int} (h : w.ownsRow base 3 1 (.slice a n c) n (zs.map (Value.int .i64))) (hz : ∀ z ∈ zs, Bd z) : IsInts .i64 w a n c zs := by
  obtain ⟨h1, h2⟩ := h
  have hl : zs.length = n := by simpa using h1
  rcases h2 with ⟨hv, hn⟩ | ⟨g, cap, cur, hv, hg, hh, hnc, hcm, hcs, ht⟩
  · cases hv
    exact ⟨hl, Nat.le_refl _, by unfold maxLen; omega, fun z hz' => of_wf64 (hz z hz'), .inl rfl⟩
  · cases hv
    refine ⟨hl, hnc, hcm, fun z hz' => of_wf64 (hz z hz'), .inr ⟨g, 0, rfl, fun i hi => ?_⟩⟩
    have hi' : i < zs.length := by omega
    have h3 : (zs.map (Value.int .i64))[i]? = some (.int .i64 (zs.getD i 0)) := by simp [List.getD, hi']
    rw [← ht, List.getElem?_take] at h3
    split at h3
    · rw [Joins.cell_of_block hh]
      simpa using h3
    · simp at h3
/-- A block whose list of stories the call itself has made. -/
def BeIn (base : Nat) (W : World) (e : BE) : Prop := BlkBd e.1 ∧ W.ownsRow base 3 1 (.slice e.2.1 e.2.2.1 e.2.2.2) e.2.2.1 (e.1.lb.af.map (Value.int .i64))
theorem BeIn.ok {base : Nat} {W : World} {e : BE} (h : BeIn base W e) : BeOk W e := by
  obtain ⟨⟨h1, h2, h3, h4, h5, h6, h7, h8, h9⟩, h10⟩ := h
  exact ⟨⟨ints_of_own h10 h9, h5, h6, h7⟩, by unfold maxLen; omega, h1, h2, h3, h4⟩
theorem own_type {w : World} {base : Nat} {e : TypeId} {size : Nat} {v : Value} {n : Nat} {xs : List Value} (h : w.ownsRow base e size v n xs) {g : Nat} (hg : v.ownBlock = some g) : ∃ cur, w.heap[g]? = some (.cells cur e (0, 0)) := by
  obtain ⟨h1, ⟨h2, h3⟩ | ⟨g', cap, cur, h2, _, h4, _⟩⟩ := h
  · rw [h2] at hg; cases hg
  · rw [h2] at hg; cases hg; exact ⟨cur, h4⟩
/-- A row of another type's abides an append. -/
theorem own_grown {w w' : World} {base b2 : Nat} {e e2 : TypeId} {size s2 : Nat} {v v2 : Value} {n n2 : Nat} {xs ys : List Value} (h : w.ownsRow base e size v n xs) (h2 : w.ownsRow b2 e2 s2 v2 n2 ys) (hne : e ≠ e2) (hg : w.grownBy w' v2.ownBlock) : w'.ownsRow base e size v n xs := by
  refine ⟨h.1, h.2.imp id ?_⟩
  rintro ⟨g, cap, cur, h1, h3, h4, h5⟩
  refine ⟨g, cap, cur, h1, h3, (hg.block g (Array.getElem?_eq_some_iff.1 h4).1 (fun e' => ?_)).trans h4, h5⟩
  obtain ⟨cur2, hc⟩ := own_type h2 e'.symm
  rw [h4] at hc
  cases hc
  exact hne rfl
theorem flat9_at : ∀ (es : List BE) (k : Nat) (e : BE), es[k]? = some e → ∀ j v, (elB e)[j]? = some v → (es.flatMap elB)[k * 9 + j]? = some v
  | [], k, e, h, _, _, _ => by simp at h
  | x :: es, 0, e, h, j, v, hv => by
    simp at h
    subst h
    have hj : j < (elB x).length := (List.getElem?_eq_some_iff.1 hv).1
    rw [List.flatMap_cons, Nat.zero_mul, Nat.zero_add, List.getElem?_append_left hj, hv]
  | x :: es, k + 1, e, h, j, v, hv => by
    simp at h
    have := flat9_at es k e h j v hv
    rw [List.flatMap_cons, List.getElem?_append_right (by simp [elB]; omega)]
    rw [show (k + 1) * 9 + j - (elB x).length = k * 9 + j by simp [elB]; omega]
    exact this
theorem flat9_len (es : List BE) : (es.flatMap elB).length = es.length * 9 := by
  induction es with
  | nil => rfl
  | cons e es ih => rw [List.flatMap_cons, List.length_append, ih, List.length_cons]; simp [elB]; omega
theorem blks_of_own {W : World} {base : Nat} {a : Option Addr} {n c : Nat} {es : List BE} (h : W.ownsRow base 26 9 (.slice a n c) n (es.flatMap elB)) (he : ∀ e ∈ es, BeOk W e) : IsBlks W a n c es := by
  obtain ⟨h1, h2⟩ := h
  rw [flat9_len] at h1
  have hl : es.length = n := by omega
  rcases h2 with ⟨hv, hn⟩ | ⟨g, cap, cur, hv, hg, hh, hnc, hcm, hcs, ht⟩
  · cases hv
    exact ⟨hl, Nat.le_refl _, by unfold maxLen; omega, he, .inl rfl⟩
  · cases hv
    refine ⟨hl, hnc, hcm, he, .inr ⟨g, 0, rfl, fun k e hke j v hv => ?_⟩⟩
    have h3 := flat9_at es k e hke j v hv
    rw [← ht, List.getElem?_take] at h3
    split at h3
    · rw [Joins.cell_of_block hh, Nat.zero_add]
      simpa using h3
    · simp at h3
theorem blkInfo : (Tryd.prog.info? 26).map (fun i => (i.zero, i.size, i.bytes)) = some (some (.agg #[.int .i64 0, .int .i64 0, .string ⟨#[]⟩, .int .i64 0, .int .i64 0, .int .i64 0, .slice none 0 0, .int .i64 0, .int .i64 0]), 9, 96) := by kernel_rfl
theorem elB_cell (e : BE) : ∀ u ∈ elB e, u.oneCell' = true := by simp [elB, Value.oneCell']
theorem elB_news (w : World) (e : BE) : ∀ j u, (elB e)[j]? = some u → (w.alloc (.cells (elB e).toArray 26)).cell? ((⟨w.heap.size, 0, none⟩ : Addr).add j) = some u := by
  intro j u h
  rw [add_at, Joins.cell_of_block (new_block w _)]
  simpa using h
def BsGot (R : Nat) (s : ByteArray) (r : List Blk × (Int × Int)) (w : World) (e : Ending) (w' : World) : Prop :=
  ∃ a c es, e = .returned (.slice a r.1.length c) ∧ blks es = r.1 ∧ IsBlks w' a r.1.length c es ∧ RdAt w' R s r.2 ∧ Keeps R w w'
set_option maxHeartbeats 4000000 in
theorem readBs_any (R : Nat) (s : ByteArray) (w : World) (σ : Int × Int) (hs : s.size ≤ maxLen) (h : RdAt w R s σ) :
    Calls Tryd.prog 60 #[.pointer (some ⟨R, 0, none⟩), .int .i64 24, .func (.func 61) #[] #[]] w (BsGot R s (rdL s.data.toList 24 (rdB s.data.toList) σ) w) := by
  have hRw : R < w.heap.size := (Array.getElem?_eq_some_iff.1 h).1
  have K := Lib.hid (readI_any R s σ w hs h)
  have KW := Lib.hid (fun W => binside_any (rdI s.data.toList σ).1 0 24 W)
  have HS := Lib.hid hs
  clear h hs
  cases hb : inB (rdI s.data.toList σ).1 0 24
  · have HR : Hid (rdL s.data.toList 24 (rdB s.data.toList) σ = ([], ((rdI s.data.toList σ).2.1, 30))) := Lib.hid (by unfold rdL; rw [if_neg (by simp [hb])])
    rw [hb] at KW
    clear hb
    rw [HR.out]
    clear HR
    generalize rdI s.data.toList σ = r at *
    obtain ⟨n, a, e⟩ := r
    go_enter Tryd.func60, Tryd.ntmps60
    go_wp2_with fail
    refine K.out.mono ?_
    rintro x w1 ⟨rfl, h1, k1⟩
    go_wp2_with fail
    refine (KW.out _).mono ?_
    rintro x w2 ⟨rfl, rfl⟩
    obtain ⟨d0, d1, d2⟩ := rd_cells h1
    have f2 := Joins.unfrozen_of_block h1 2
    have H3 := Lib.hid (show RdAt (w1.setCell ⟨R, 2, none⟩ (.int .i64 30)) R s (a, 30) from Joins.block_setCell h1 (.int .i64 30))
    have K3 := Lib.hid (k1.setCell 2 (.int .i64 30))
    clear h1 k1
    go_wp2
    go_ret
    exact ⟨none, 0, [], rfl, rfl, ⟨rfl, Nat.le_refl _, by unfold maxLen; omega, by simp, .inl rfl⟩, H3.out, K3.out⟩
  · have HR : Hid (rdL s.data.toList 24 (rdB s.data.toList) σ = rdN (rdB s.data.toList) (rdI s.data.toList σ).1.toNat (rdI s.data.toList σ).2) := Lib.hid (by unfold rdL; rw [if_pos hb])
    rw [hb] at KW
    simp only [inB, decide_eq_true_eq] at hb
    rw [HR.out]
    clear HR
    generalize rdI s.data.toList σ = r at *
    obtain ⟨n, σ1⟩ := r
    simp only at K KW hb ⊢
    obtain ⟨N, rfl⟩ := Int.eq_ofNat_of_zero_le hb.1
    simp only [Int.toNat_natCast]
    have hN : N ≤ 24 := by omega
    clear hb
    obtain ⟨i0, hi, hz0, hz1, hz2⟩ := info_parts blkInfo
    go_enter Tryd.func60, Tryd.ntmps60
    go_wp2_with fail
    refine K.out.mono ?_
    rintro x w1 ⟨rfl, h1, k1⟩
    go_wp2_with fail
    refine (KW.out _).mono ?_
    rintro x w2 ⟨rfl, rfl⟩
    have HD1 := Lib.hid h1
    have HK1 := Lib.hid k1
    clear h1 k1 K KW
    go_wp2_with fail
    go_loopw [19, 8] (fun i v wr => ∃ (k : Nat) (es : List BE), k ≤ N ∧ i = .int .i64 k ∧ Hid (blks es = (rdN (rdB s.data.toList) k σ1).1) ∧ Hid (wr.ownsRow w.heap.size 26 9 v k (es.flatMap elB)) ∧ Hid (∀ e ∈ es, BeIn w.heap.size wr e) ∧ Hid (RdAt wr R s (rdN (rdB s.data.toList) k σ1).2) ∧ Hid (Keeps R w wr)) (fun i _ _ => N - (intOf i).toNat)
    case atStart => exact ⟨0, [], Nat.zero_le _, rfl, Lib.hid rfl, Lib.hid (World.ownsRow_nil _ _ _ _), Lib.hid (by simp), HD1, HK1⟩
    case round =>
      obtain ⟨k, es, hk, rfl, hes, hown, hin, hd, hkp⟩ := hrel
      by_cases hlt : k < N
      · have HSN := Lib.hid (rdN_snoc (rdB s.data.toList) k σ1)
        have KI := Lib.hid (readBlk_any R s (rdN (rdB s.data.toList) k σ1).2 wr HS.out hd.out)
        have HBD := Lib.hid (rdB_bd s.data.toList (rdN (rdB s.data.toList) k σ1).2)
        generalize rdB s.data.toList (rdN (rdB s.data.toList) k σ1).2 = q at *
        obtain ⟨b, σ2⟩ := q
        simp only at KI HSN HBD
        obtain ⟨va, vc, rfl⟩ := own_slice hown.out
        have hltn : (k : Int) < N := by omega
        go_wp2_with fail
        refine KI.out.mono ?_
        rintro x w2 ⟨la, lc, rfl, ow, h2, k2⟩
        obtain ⟨e, he⟩ : ∃ e : BE, e = (b, la, b.lb.af.length, lc) := ⟨_, rfl⟩
        have hsz : w.heap.size ≤ wr.heap.size := hkp.out.size
        have NEW := Lib.hid (show BeIn w.heap.size w2 e by rw [he]; exact ⟨HBD.out, own_mono ow hsz⟩)
        have OLD : Hid (∀ e ∈ es, BeIn w.heap.size w2 e) := Lib.hid (fun e' h' => ⟨(hin.out e' h').1, own_keeps (hin.out e' h').2 hRw k2⟩)
        have OWN := Lib.hid (own_keeps hown.out hRw k2)
        have K2 := Lib.hid (hkp.out.trans k2)
        have D2 := Lib.hid h2
        have hbe : e.1 = b := by rw [he]
        have HBE := Lib.hid hbe
        have HEE := Lib.hid he
        obtain ⟨L, hL⟩ : ∃ L, L = b.lb.af.length := ⟨_, rfl⟩
        simp only [blkV]
        rw [← hL]
        rw [← hL] at HEE
        clear h2 k2 hown hkp KI hd hin ow he hbe HBD hsz hL
        have hb0 : w.heap.size ≤ (w2.alloc (.cells #[.int .i64 b.id, .int .i64 b.kd, .string ⟨b.tx.toArray⟩, .int .i64 b.st, .int .i64 b.rf, .int .i64 b.lb.u, .slice la L lc, .int .i64 b.lb.ap, .int .i64 b.lb.d] 26)).heap.size := by have := K2.out.size; simp; omega
        have hnews := Lib.hid (elB_news w2 (b, la, L, lc))
        go_wp2_with (at_builtin; refine wpList_append_own _ rfl (.tmp 21) (.tmp 25) 27 rfl w.heap.size 26 i0 _ 9 96 Tryd.underlying27 hi hz0 hz1 hz2 rfl (by decide) _ k _ rfl (OWN.out.alloc _) ⟨w2.heap.size, 0, none⟩ 1 1 (elB (b, la, L, lc)) rfl rfl hnews.out (elB_cell _) (by unfold maxLen; omega) (by omega) hb0 ?_; intro v' w3 hown1 hg _; obtain ⟨a', c', rfl⟩ := own_slice hown1)
        have hRr : ∀ q, Value.ownBlock (.slice va k vc) = some q → w.heap.size ≤ q := fun q hq => (OWN.out.lt _ hq).1
        have D3 := Lib.hid (show RdAt w3 R s σ2 from (hg.block _ (by have := K2.out.size; simp; omega) (fun e => by have := hRr _ e.symm; omega)).trans ((Below.heap_alloc _ _ _ (by have := K2.out.size; omega)).trans D2.out))
        have K3 := Lib.hid ((K2.out.alloc (.cells #[.int .i64 b.id, .int .i64 b.kd, .string ⟨b.tx.toArray⟩, .int .i64 b.st, .int .i64 b.rf, .int .i64 b.lb.u, .slice la L lc, .int .i64 b.lb.ap, .int .i64 b.lb.d] 26)).grown hg hRr)
        have IN3 : Hid (∀ e' ∈ es ++ [e], BeIn w.heap.size w3 e') := Lib.hid (fun e' h' => by
          have h2 : BeIn w.heap.size w2 e' := by
            rcases List.mem_append.1 h' with h' | h'
            · exact OLD.out e' h'
            · rw [List.mem_singleton] at h'; rw [h']; exact NEW.out
          exact ⟨h2.1, own_grown (h2.2.alloc _) (OWN.out.alloc _) (by decide) hg⟩)
        have OWN3 := Lib.hid hown1
        clear hown1 hg hRr hb0 D2 K2 OWN hnews NEW OLD
        go_wp2
        go_roundw
        case rel =>
          refine ⟨k + 1, es ++ [e], by omega, by go_num, Lib.hid ?_, Lib.hid ?_, IN3, Lib.hid ?_, K3⟩
          · rw [HSN.out, ← hes.out]; simp [blks, HBE.out]
          · have h9 := OWN3.out
            rw [HEE.out, List.flatMap_append]
            simpa using h9
          · rw [HSN.out]; exact D3.out
        case measure => simp [intOf]; omega
      · obtain rfl : k = N := by omega
        obtain ⟨va, vc, rfl⟩ := own_slice hown.out
        have hlen := rdN_len (rdB s.data.toList) k σ1
        have HI := Lib.hid (blks_of_own hown.out (fun e he => (hin.out e he).ok))
        go_wp2
        go_ret
        refine ⟨va, vc, es, by rw [hlen]; rfl, hes.out, by rw [hlen]; exact HI.out, hd.out, hkp.out⟩
end Go.Proofs.YtcapfjonkcekoaaDoor
