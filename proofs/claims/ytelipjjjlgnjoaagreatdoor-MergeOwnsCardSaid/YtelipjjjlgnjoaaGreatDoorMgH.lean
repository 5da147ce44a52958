import Derived.Test.YtelipjjjlgnjoaaGreatDoorMgG
namespace Go.Proofs.YtelipjjjlgnjoaaGreatDoor
open Go.RowKit Go.MapKept Go.Shelf
set_option maxRecDepth 100000
set_option linter.unusedSimpArgs false
set_option linter.unusedVariables false
def mapE (mE : Int → Option BE) (i : Int) : Option Value := (mE i).map bv
def mB (mE : Int → Option BE) (i : Int) : Bool := (mE i).isSome
def blkAgg (e : BE) : Value := .agg #[.int .i64 e.1.id, .int .i64 e.1.kd, .string ⟨e.1.tx.toArray⟩, .int .i64 e.1.st, .int .i64 e.1.rf, .int .i64 e.1.lb.u, .slice e.2.1 e.2.2.1 e.2.2.2, .int .i64 e.1.lb.ap, .int .i64 e.1.lb.d]
theorem mapE_none {mE : Int → Option BE} {i : Int} (h : mE i = none) : mapE mE i = none := by unfold mapE; rw [h]; rfl
theorem mapE_some {mE : Int → Option BE} {i : Int} {r : BE} (h : mE i = some r) : mapE mE i = some (.agg #[.int .i64 r.1.id, .int .i64 r.1.kd, .string ⟨r.1.tx.toArray⟩, .int .i64 r.1.st, .int .i64 r.1.rf, .int .i64 r.1.lb.u, .slice r.2.1 r.2.2.1 r.2.2.2, .int .i64 r.1.lb.ap, .int .i64 r.1.lb.d]) := by unfold mapE; rw [h]; rfl
/-- Block G is a map of blocks by their IDs. -/
structure MapOf (w : World) (G cnt : Nat) (mE : Int → Option BE) : Prop where
  hm : IsMapV w Tryz.prog 3 G cnt (mapE mE)
  ok : ∀ i r, mE i = some r → BlkBd r.1 ∧ BeOk w r ∧ r.1.lb.af.length ≤ 1000 ∧ r.1.id = i
theorem MapOf.over {w w' : World} {G cnt : Nat} {mE : Int → Option BE} (h : MapOf w G cnt mE) (hb : Below w.heap.size w w') : MapOf w' G cnt mE :=
  ⟨h.hm.over hb, fun i r hr => ⟨(h.ok i r hr).1, (h.ok i r hr).2.1.over hb, (h.ok i r hr).2.2⟩⟩
theorem intsV_snoc (os : List Int) (x : Int) : intsV (os ++ [x]) = intsV os ++ [Value.int .i64 x] := by simp [intsV]
theorem filter_take_yes {m : Int → Bool} {es : List BE} {k : Nat} {e : BE} (he : es[k]? = some e) (hm : m e.1.id = true) : (bids (blks (es.take (k + 1)))).filter m = (bids (blks (es.take k))).filter m ++ [e.1.id] := by
  rw [bids_take_succ he, List.filter_append]; simp [hm]
theorem filter_take_no {m : Int → Bool} {es : List BE} {k : Nat} {e : BE} (he : es[k]? = some e) (hm : m e.1.id = false) : (bids (blks (es.take (k + 1)))).filter m = (bids (blks (es.take k))).filter m := by
  rw [bids_take_succ he, List.filter_append]; simp [hm]
theorem filter_take_len (m : Int → Bool) (es : List BE) (k : Nat) : ((bids (blks (es.take k))).filter m).length ≤ k := by
  refine Nat.le_trans (List.length_filter_le _ _) ?_
  simp [bids, blks]; omega
theorem own_cell {w : World} {base : Nat} {a : Option Addr} {n c : Nat} {os : List Int} {k : Nat} {x : Int} (h : w.ownsRow base 3 1 (.slice a n c) n (intsV os)) (hk : os[k]? = some x) : ∃ b, a = some ⟨b, 0, none⟩ ∧ w.cell? ⟨b, k, none⟩ = some (.int .i64 x) := by
  have hl := own_len h
  have hlt := (List.getElem?_eq_some_iff.1 hk).1
  obtain ⟨b, rfl, _, _, _, cur, hb, hcs, ht⟩ := own_ints h (by omega)
  refine ⟨b, rfl, ?_⟩
  rw [Joins.cell_of_block hb]
  have h1 : (cur.toList.take n)[k]? = (intsV os)[k]? := by rw [ht]
  rw [List.getElem?_take, if_pos (by omega)] at h1
  have h2 : (intsV os)[k]? = some (.int .i64 x) := by simp [intsV, hk]
  rw [h2] at h1
  simpa using h1
theorem alloc_at (w : World) (o : Obj) (g : Nat) (h : g = w.heap.size) : (w.alloc o).heap[g]? = some o := by subst h; exact heap_alloc_new w o
set_option maxHeartbeats 16000000 in
theorem inOrder_any (G cnt : Nat) (mE : Int → Option BE) (a : Option Addr) (n c : Nat) (es : List BE) (a2 : Option Addr) (n2 c2 : Nat) (fs : List BE) (w : World) (hM : MapOf w G cnt mE) (h : IsBlks w a n c es) (h2 : IsBlks w a2 n2 c2 fs) (hn : n ≤ 1000) (hn2 : n2 ≤ 1000) (hnd : (bids (blks es)).Nodup) :
    Calls Tryz.prog 30 #[.map (some G), .slice a n c, .slice a2 n2 c2] w fun x w' => ∃ a' c' rs, x = .returned (.slice a' rs.length c') ∧ blks rs = (ordL (mB mE) (bids (blks es)) (bids (blks fs))).filterMap (fun i => (mE i).map (·.1)) ∧ w'.ownsRow w.heap.size 39 9 (.slice a' rs.length c') rs.length (rs.flatMap elB) ∧ (∀ e ∈ rs, BeIn w.heap.size w' e) ∧ Below w.heap.size w w' := by
  have hcm := h.2.2.1
  have hnc := h.2.1
  have hcm2 := h2.2.2.1
  have hnc2 := h2.2.1
  have HL := Lib.hid h.1
  have HL2 := Lib.hid h2.1
  have H := Lib.hid h
  have H2 := Lib.hid h2
  have HM := Lib.hid hM
  have HO := Lib.hid (ordL_inv (mB mE) hnd (bids (blks fs)))
  have HOL := Lib.hid (show ordL (mB mE) (bids (blks es)) (bids (blks fs)) = ((bids (blks fs)).foldl (ordS (mB mE)) ((bids (blks es)).filter (mB mE), 0)).1 from rfl)
  unfold maxLen at hcm hcm2
  clear h h2 hM hnd
  obtain ⟨i0, hi, hz0, hz1, hz2⟩ := info_parts intInfo'
  go_enter Tryz.func30, Tryz.ntmps30
  go_wp2
  go_loopw [23, 9, 10, 11, 7] (fun i _ _ _ v wr => ∃ k : Nat, k ≤ n ∧ i = .int .i64 k ∧ Hid (wr.ownsRow w.heap.size 3 1 v ((bids (blks (es.take k))).filter (mB mE)).length (intsV ((bids (blks (es.take k))).filter (mB mE)))) ∧ Hid (Below w.heap.size w wr)) (fun i _ _ _ _ _ => n - (intOf i).toNat)
  case atStart => exact ⟨0, Nat.zero_le _, rfl, Lib.hid (by simpa [bids, blks, intsV] using World.ownsRow_nil w w.heap.size 3 1), Lib.hid (Below.refl _ _)⟩
  case round =>
    obtain ⟨k, hk, rfl, hown, bw⟩ := hrel
    by_cases hlt : k < n
    · obtain ⟨b, off, e, rfl, he, hok, h9⟩ := (H.out.over bw.out).at_ hlt
      have HE := Lib.hid he
      have HO := Lib.hid hok
      obtain ⟨p0, p1, p2, p3, p4, p5, p6, p7, p8⟩ := h9
      clear he hok
      have hltn : (k : Int) < n := by omega
      have B2 := Lib.hid (below_alloc wr (.cells (elB e).toArray 39))
      have HM2 := Lib.hid ((HM.out.over bw.out).over B2.out).hm
      have BX := Lib.hid (bel2 bw.out B2.out)
      have hkey := key_of HO.out.2.2.1
      have hfl := filter_take_len (mB mE) es k
      obtain ⟨va, vc, rfl⟩ := own_slice hown.out
      cases hf : mE e.1.id with
      | none =>
        have hv := mapE_none hf
        have HN := Lib.hid (filter_take_no HE.out (show mB mE e.1.id = false by unfold mB; rw [hf]; rfl))
        clear hf
        go_wp2_with (at_lookup; refine wpList_look_V_ok _ rfl _ _ 42 rfl 3 39 keyI Tryz.underlying42 _ (Tryz.zeroValue39 _) G cnt (mapE mE) rfl HM2.out _ rfl hkey ?_)
        go_roundw
        case rel => exact ⟨k + 1, by omega, by go_num, Lib.hid (by rw [HN.out]; exact own_over hown.out ((below_alloc wr _).alloc (by simp) _)), Lib.hid (bw.out.alloc bw.out.size _ |>.alloc (by have := bw.out.size; simp; omega) _)⟩
        case measure => simp [intOf]; omega
      | some r =>
        have hv := mapE_some hf
        have HN := Lib.hid (filter_take_yes HE.out (show mB mE e.1.id = true by unfold mB; rw [hf]; rfl))
        clear hf
        have HF := Lib.hid hfl
        have HW := hown.out
        generalize (bids (blks (es.take k))).filter (mB mE) = o at *
        have HOW := Lib.hid HW
        have hb0 := bw.out.size
        clear HW
        go_wp2_with (first | (at_lookup; refine wpList_look_V_ok _ rfl _ _ 42 rfl 3 39 keyI Tryz.underlying42 _ (Tryz.zeroValue39 _) G cnt (mapE mE) rfl HM2.out _ rfl hkey ?_) | (at_builtin; refine wpList_append_own _ rfl (.tmp 35) (.tmp 38) 25 rfl w.heap.size 3 i0 _ 1 8 Tryz.underlying25 hi hz0 hz1 hz2 rfl (by decide) (.slice va o.length vc) o.length _ rfl (((HOW.out.alloc _).alloc _).alloc _) ⟨wr.heap.size + 1 + 1, 0, none⟩ 1 1 [.int .i64 e.1.id] rfl rfl (new_news _ (wr.heap.size + 1 + 1) (by simp) [.int .i64 e.1.id] 3) (by simp [Value.oneCell']) (by unfold maxLen; omega) (by omega) (by simp; omega) ?_; intro v' w3 hown1 hg _; obtain ⟨a', c', rfl⟩ := own_slice hown1; have HG := Lib.hid hg; have HO1 := Lib.hid hown1; clear hg hown1))
        have B3 : Below w.heap.size w w3 := (((bw.out.alloc hb0 _).alloc (by simp; omega) _).alloc (by simp; omega) _).grown HG.out (by simp; omega) (fun q hq => (HOW.out.lt q hq).1)
        go_roundw
        case rel => exact ⟨k + 1, by omega, by go_num, Lib.hid (by rw [HN.out, intsV_snoc, List.length_append]; exact HO1.out), Lib.hid B3⟩
        case measure => simp [intOf]; omega
    · obtain rfl : k = n := by omega
      rw [bids_take (by rw [HL.out]; exact Nat.le_refl _)] at hown
      go_wp2
      obtain ⟨wA, rfl⟩ : ∃ x : World, x = wr := ⟨_, rfl⟩
      generalize hX : (bids (blks es)).filter (mB mE) = X at *
      have hXl : X.length ≤ 1000 := by rw [← hX]; refine Nat.le_trans (List.length_filter_le _ _) ?_; simp [bids, blks]; rw [HL.out]; exact hn
      have HX := Lib.hid hX
      have HXL := Lib.hid hXl
      clear hX hXl
      go_loopw [43, 14, 15, 16, 17, 7, 12] (fun i _ _ _ _ v nx wr => ∃ (k : Nat) (o : List Int) (q : Nat), k ≤ n2 ∧ i = .int .i64 k ∧ nx = .int .i64 (q : Int) ∧ Hid ((bids (blks (fs.take k))).foldl (ordS (mB mE)) (X, 0) = (o, q)) ∧ Hid (wr.ownsRow w.heap.size 3 1 v o.length (intsV o)) ∧ Hid (Below w.heap.size w wr) ∧ Hid (o.length ≤ X.length + k ∧ q ≤ o.length)) (fun i _ _ _ _ _ _ _ => n2 - (intOf i).toNat)
      case atStart => exact ⟨0, X, 0, Nat.zero_le _, rfl, rfl, Lib.hid rfl, hown, bw, Lib.hid ⟨Nat.le_refl _, Nat.zero_le _⟩⟩
      case round =>
        obtain ⟨k, o, q, hk, rfl, rfl, hst, hown, bw, hlq⟩ := hrel
        by_cases hlt : k < n2
        · obtain ⟨b, off, e, rfl, he, hok, h9⟩ := (H2.out.over bw.out).at_ hlt
          have HE := Lib.hid he
          have HO := Lib.hid hok
          obtain ⟨p0, p1, p2, p3, p4, p5, p6, p7, p8⟩ := h9
          clear he hok
          have hltn : (k : Int) < n2 := by omega
          have B2 := Lib.hid (below_alloc wr (.cells #[.int .i64 e.1.id, .int .i64 e.1.kd, .string ⟨e.1.tx.toArray⟩, .int .i64 e.1.st, .int .i64 e.1.rf, .int .i64 e.1.lb.u, .slice e.2.1 e.2.2.1 e.2.2.2, .int .i64 e.1.lb.ap, .int .i64 e.1.lb.d] 39))
          have HM2 := Lib.hid ((HM.out.over bw.out).over B2.out).hm
          have BX := Lib.hid (bel2 bw.out B2.out)
          have hkey := key_of HO.out.2.2.1
          obtain ⟨va, vc, rfl⟩ := own_slice hown.out
          have hl1 := hlq.out.1
          have hl2 := hlq.out.2
          have hxl := HXL.out
          have KI := Lib.hid (fun W (hW : Below wr.heap.size wr W) => index_any W w.heap.size va o.length vc o e.1.id (own_over hown.out hW) (by omega))
          have HS := Lib.hid (show (bids (blks (fs.take (k + 1)))).foldl (ordS (mB mE)) (X, 0) = ordS (mB mE) (o, q) e.1.id by rw [bids_take_succ HE.out, List.foldl_append, hst.out]; rfl)
          cases hf : idxI o e.1.id with
          | some kk =>
            have hkk := idxI_lt hf
            have HN := Lib.hid (show ordS (mB mE) (o, q) e.1.id = (o, kk + 1) by unfold ordS; rw [hf])
            rw [hf] at KI
            clear hf
            go_wp2_with fail
            refine (KI.out _ B2.out).mono ?_
            rintro x w1 ⟨rfl, rfl⟩
            go_wp2
            go_roundw
            case rel => exact ⟨k + 1, o, kk + 1, by omega, by go_num, by go_num, Lib.hid (by rw [HS.out, HN.out]), Lib.hid (own_over hown.out B2.out), Lib.hid BX.out, Lib.hid ⟨by omega, by omega⟩⟩
            case measure => simp [intOf]; omega
          | none =>
            rw [hf] at KI
            cases hf2 : mE e.1.id with
            | none =>
              have hv := mapE_none hf2
              have HN := Lib.hid (show ordS (mB mE) (o, q) e.1.id = (o, q) by unfold ordS; rw [hf]; simp [mB, hf2])
              clear hf hf2
              go_wp2_with (first | (go_at_call 52; refine (KI.out _ B2.out).mono ?_; rintro x w1 ⟨rfl, rfl⟩) | (at_lookup; refine wpList_look_V_ok _ rfl _ _ 42 rfl 3 39 keyI Tryz.underlying42 _ (Tryz.zeroValue39 _) G cnt (mapE mE) rfl HM2.out _ rfl hkey ?_))
              go_roundw
              case rel => exact ⟨k + 1, o, q, by omega, by go_num, by go_num, Lib.hid (by rw [HS.out, HN.out]), Lib.hid (own_over hown.out ((below_alloc wr _).alloc (by simp) _)), Lib.hid ((bw.out.alloc bw.out.size _).alloc (by have := bw.out.size; simp; omega) _), Lib.hid ⟨by omega, by omega⟩⟩
              case measure => simp [intOf]; omega
            | some r =>
              have hv := mapE_some hf2
              have HN := Lib.hid (show ordS (mB mE) (o, q) e.1.id = (insA o q e.1.id, q + 1) by unfold ordS; rw [hf]; simp [mB, hf2])
              clear hf hf2
              have hb0 := bw.out.size
              have hne : (va.map Addr.block) ≠ some (wr.heap.size + 1 + 1) := by
                intro hq
                rcases hown.out.2 with ⟨e0, _⟩ | ⟨g, cap, cur, hvv, _⟩
                · injection e0 with e1 _ _; rw [e1] at hq; cases hq
                · injection hvv with e1 _ _
                  have := (hown.out.lt g (by rw [e1]; rfl)).2
                  rw [e1] at hq
                  simp at hq
                  omega
              have HNE := Lib.hid hne
              clear hne
              go_wp2_with (first | (go_at_call 52; refine (KI.out _ B2.out).mono ?_; rintro x w1 ⟨rfl, rfl⟩) | (at_lookup; refine wpList_look_V_ok _ rfl _ _ 42 rfl 3 39 keyI Tryz.underlying42 _ (Tryz.zeroValue39 _) G cnt (mapE mE) rfl HM2.out _ rfl hkey ?_) | (go_at_call 53; refine (insert_any _ w.heap.size va o.length vc o q (wr.heap.size + 1 + 1) e.1.id (((hown.out.alloc _).alloc _).alloc _) (by omega) (by omega) (by simp; omega) (alloc_at _ _ _ (by simp)) HNE.out).mono ?_; rintro x w3 ⟨a', c', rfl, ho3, b3⟩; have HO3 := Lib.hid ho3; have B3 := Lib.hid b3; clear ho3 b3))
              have hil := insA_len o q e.1.id hl2
              go_roundw
              case rel => exact ⟨k + 1, insA o q e.1.id, q + 1, by omega, by go_num, by go_num, Lib.hid (by rw [HS.out, HN.out]), Lib.hid (by rw [hil]; exact HO3.out), Lib.hid ((((bw.out.alloc hb0 _).alloc (by simp; omega) _).alloc (by simp; omega) _).trans B3.out), Lib.hid ⟨by rw [hil]; omega, by rw [hil]; omega⟩⟩
              case measure => simp [intOf]; omega
        · obtain rfl : k = n2 := by omega
          rw [bids_take (by rw [HL2.out]; exact Nat.le_refl _)] at hst
          rw [hst.out] at HO HOL
          simp only at HO HOL
          have hol : o.length ≤ 2000 := by have := hlq.out.1; have := HXL.out; omega
          clear hlq hst
          obtain ⟨va, vc, rfl⟩ := own_slice hown.out
          obtain ⟨j0, hj, hy0, hy1, hy2⟩ := info_parts blkInfo
          clear hi hz0 hz1 hz2
          go_wp2
          obtain ⟨wB, rfl⟩ : ∃ x : World, x = wr := ⟨_, rfl⟩
          go_loopw [74, 20, 18] (fun i _ v wr => ∃ (k : Nat) (rs : List BE), k ≤ o.length ∧ i = .int .i64 k ∧ Hid (rs.length = k ∧ blks rs = (o.take k).filterMap (fun i => (mE i).map (·.1))) ∧ Hid (wr.ownsRow w.heap.size 39 9 v k (rs.flatMap elB)) ∧ Hid (∀ e ∈ rs, BeIn w.heap.size wr e) ∧ Hid (wr.ownsRow w.heap.size 3 1 (.slice va o.length vc) o.length (intsV o)) ∧ Hid (Below w.heap.size w wr)) (fun i _ _ _ => o.length - (intOf i).toNat)
          case atStart => exact ⟨0, [], Nat.zero_le _, rfl, Lib.hid ⟨rfl, rfl⟩, Lib.hid (World.ownsRow_nil _ _ _ _), Lib.hid (by simp), hown, bw⟩
          case round =>
            obtain ⟨k, rs, hk, rfl, hrs, hrow, hin, hord, bw⟩ := hrel
            obtain ⟨vl, vlc, rfl⟩ := own_slice hrow.out
            by_cases hlt : k < o.length
            · have hoe := List.getElem?_eq_getElem hlt
              generalize o[k] = id at hoe
              obtain ⟨b, hva, hcell⟩ := own_cell hord.out hoe
              have hmid : mB mE id = true := ((HO.out.mem id).1 (List.mem_of_getElem? hoe)).1
              obtain ⟨r, hr⟩ := Option.isSome_iff_exists.1 hmid
              have hv := mapE_some hr
              have hMr := (HM.out.over bw.out).ok id r hr
              have hid : Bd id := by rw [← hMr.2.2.2]; exact hMr.2.1.2.2.1
              have hkey := key_of hid
              have hltn : (k : Int) < o.length := by omega
              have HMM := Lib.hid (HM.out.over bw.out).hm
              have KD := Lib.hid (detached_any r wr hMr.2.1 hMr.2.2.1)
              have HBD := Lib.hid hMr.1
              have HTK := Lib.hid (show (o.take (k + 1)).filterMap (fun i => (mE i).map (·.1)) = (o.take k).filterMap (fun i => (mE i).map (·.1)) ++ [r.1] by rw [take_snoc hoe, List.filterMap_append]; simp [hr])
              have HVA := Lib.hid hva
              unfold bv blkV at KD
              simp only at KD
              clear hoe hmid hr hMr hid
              subst hva
              go_wp2_with (first | (at_lookup; refine wpList_look_V _ rfl _ _ 42 rfl 3 39 keyI Tryz.underlying42 _ (Tryz.zeroValue39 _) G cnt (mapE mE) rfl HMM.out _ rfl hkey ?_))
              refine KD.out.mono ?_
              rintro x w2 ⟨la, lc, rfl, ow, b2⟩
              obtain ⟨e, he⟩ : ∃ e : BE, e = (r.1, la, r.1.lb.af.length, lc) := ⟨_, rfl⟩
              have hsz : w.heap.size ≤ wr.heap.size := bw.out.size
              have NEW := Lib.hid (show BeIn w.heap.size w2 e by rw [he]; exact ⟨HBD.out, own_mono ow hsz⟩)
              have OLD : Hid (∀ e ∈ rs, BeIn w.heap.size w2 e) := Lib.hid (fun e' h' => ⟨(hin.out e' h').1, own_over (hin.out e' h').2 b2⟩)
              have OWN := Lib.hid (own_over hrow.out b2)
              have ORD := Lib.hid (own_over hord.out b2)
              have BW := Lib.hid (belowOver bw.out (Nat.le_refl _) b2)
              have hbe : e.1 = r.1 := by rw [he]
              have HBE := Lib.hid hbe
              have HEE := Lib.hid he
              obtain ⟨L, hL⟩ : ∃ L, L = r.1.lb.af.length := ⟨_, rfl⟩
              rw [← hL]
              rw [← hL] at HEE
              clear b2 hrow KD hin ow he hbe hsz hL bw hord hcell
              have hb0 : w.heap.size ≤ (w2.alloc (.cells #[.int .i64 r.1.id, .int .i64 r.1.kd, .string ⟨r.1.tx.toArray⟩, .int .i64 r.1.st, .int .i64 r.1.rf, .int .i64 r.1.lb.u, .slice la L lc, .int .i64 r.1.lb.ap, .int .i64 r.1.lb.d] 39)).heap.size := by have := BW.out.size; simp; omega
              have hnews := Lib.hid (elB_news w2 (r.1, la, L, lc))
              go_wp2_with (at_builtin; refine wpList_append_own _ rfl (.tmp 78) (.tmp 83) 22 rfl w.heap.size 39 j0 _ 9 96 Tryz.underlying22 hj hy0 hy1 hy2 rfl (by decide) (.slice vl k vlc) k _ rfl (OWN.out.alloc _) ⟨w2.heap.size, 0, none⟩ 1 1 (elB (r.1, la, L, lc)) rfl rfl hnews.out (elB_cell _) (by unfold maxLen; omega) (by omega) hb0 ?_; intro v' w3 hown1 hg _; obtain ⟨a', c', rfl⟩ := own_slice hown1)
              have IN3 : Hid (∀ e' ∈ rs ++ [e], BeIn w.heap.size w3 e') := Lib.hid (fun e' h' => by
                have h2 : BeIn w.heap.size w2 e' := by
                  rcases List.mem_append.1 h' with h' | h'
                  · exact OLD.out e' h'
                  · rw [List.mem_singleton] at h'; rw [h']; exact NEW.out
                exact ⟨h2.1, own_grown (h2.2.alloc _) (OWN.out.alloc _) (by decide) hg⟩)
              have OR3 := Lib.hid (own_grown (ORD.out.alloc (.cells #[.int .i64 r.1.id, .int .i64 r.1.kd, .string ⟨r.1.tx.toArray⟩, .int .i64 r.1.st, .int .i64 r.1.rf, .int .i64 r.1.lb.u, .slice la L lc, .int .i64 r.1.lb.ap, .int .i64 r.1.lb.d] 39)) (OWN.out.alloc _) (by decide) hg)
              have BW3 := Lib.hid ((BW.out.alloc BW.out.size (.cells #[.int .i64 r.1.id, .int .i64 r.1.kd, .string ⟨r.1.tx.toArray⟩, .int .i64 r.1.st, .int .i64 r.1.rf, .int .i64 r.1.lb.u, .slice la L lc, .int .i64 r.1.lb.ap, .int .i64 r.1.lb.d] 39)).grown hg hb0 (fun q hq => (OWN.out.lt q hq).1))
              have OWN3 := Lib.hid hown1
              clear hown1 hg hb0 OWN hnews NEW OLD
              go_roundw
              case rel =>
                refine ⟨k + 1, rs ++ [e], by omega, by go_num, Lib.hid ⟨by rw [List.length_append, hrs.out.1]; rfl, ?_⟩, Lib.hid ?_, IN3, OR3, BW3⟩
                · rw [HTK.out, ← hrs.out.2]; simp [blks, HBE.out]
                · have h9 := OWN3.out
                  rw [HEE.out, List.flatMap_append]
                  simpa using h9
              case measure => simp [intOf]; omega
            · obtain rfl : k = o.length := by omega
              rw [List.take_length] at hrs
              go_wp2
              go_ret
              refine ⟨vl, vlc, rs, by rw [hrs.out.1]; rfl, by rw [hrs.out.2, HOL.out], by rw [hrs.out.1]; exact hrow.out, hin.out, bw.out⟩
end Go.Proofs.YtelipjjjlgnjoaaGreatDoor
