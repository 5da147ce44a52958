import Derived.Test.YtlhcckjfgpcohaaGreatDoorBlkE2
namespace Go.Proofs.YtlhcckjfgpcohaaGreatDoor
open Go.RowKit Go.MapKept
set_option maxRecDepth 100000
set_option linter.unusedSimpArgs false
set_option linter.unusedVariables false
theorem vB_tx {b : Blk} (h : vB b = true) : b.tx.length ≤ 300 := by
  simp only [vB, Bool.and_eq_true] at h
  obtain ⟨hk, hi, ht, hs, hl⟩ := h
  unfold kindT at ht
  split at ht
  · simp [textB] at ht; exact ht.1
  · split at ht
    · simp [nameB, inB] at ht; omega
    · simp [fillB, textB] at ht; exact ht.2.1
theorem encB_len {b : Blk} (h : vB b = true) : (encB b).length ≤ 1000 := by
  have ht := vB_tx h
  have ho := (vB_ok h).2.2.2.2.2.2.1.1
  have hf := flat_len b.lb.af
  unfold encB encS encN
  simp only [List.length_append]
  have h1 := encInt_len b.id
  have h2 := encInt_len b.kd
  have h3 := encInt_len (b.tx.length : Int)
  have h4 := encInt_len b.st
  have h5 := encInt_len b.rf
  have h6 := encInt_len b.lb.u
  have h7 := encInt_len (b.lb.af.length : Int)
  have h8 := encInt_len b.lb.ap
  have h9 := encInt_len b.lb.d
  omega
theorem encs_len : ∀ (l : List Blk), (∀ b ∈ l, vB b = true) → (l.flatMap encB).length ≤ 1000 * l.length
  | [], _ => by simp
  | b :: l, h => by
    rw [List.flatMap_cons, List.length_append, List.length_cons]
    have h1 := encB_len (h b List.mem_cons_self)
    have h2 := encs_len l (fun x hx => h x (List.mem_cons_of_mem _ hx))
    omega
theorem blks_succ {es : List BE} {k : Nat} {e : BE} (h : es[k]? = some e) : (blks (es.take (k + 1))).flatMap encB = (blks (es.take k)).flatMap encB ++ encB e.1 := by
  obtain ⟨hk, rfl⟩ := List.getElem?_eq_some_iff.1 h
  rw [List.take_succ_eq_append_getElem hk]
  unfold blks
  rw [List.map_append, List.flatMap_append]
  simp only [List.map_cons, List.map_nil, List.flatMap_cons, List.flatMap_nil, List.append_nil]
def encR (l : List Blk) : List UInt8 × Int := if vL l = true then (encL l, 0) else ([], 30)
set_option maxHeartbeats 4000000 in
theorem encode_any (a : Option Addr) (n c : Nat) (es : List BE) (w : World) (h : IsBlks w a n c es) :
    Calls Tryz.prog 171 #[.slice a n c] w fun x w' => x = .returned (.tuple #[.string ⟨(encR (blks es)).1.toArray⟩, .int .i64 (encR (blks es)).2]) ∧ Below w.heap.size w w' := by
  have hcm := h.2.2.1
  have hnc := h.2.1
  have HL := Lib.hid h.1
  have H := Lib.hid h
  have KV := Lib.hid (vlist_any a n c es w h)
  unfold maxLen at hcm
  clear h
  cases hv : vL (blks es)
  · have HR := Lib.hid (show encR (blks es) = ([], 30) by unfold encR; rw [hv]; rfl)
    rw [hv] at KV
    clear hv
    go_enter Tryz.func171, Tryz.ntmps171
    go_wp2_with fail
    refine KV.out.mono ?_
    rintro x w1 ⟨rfl, b1⟩
    go_wp2
    go_ret2
    rw [HR.out]
    exact ⟨rfl, b1⟩
  · have HR := Lib.hid (show encR (blks es) = (encL (blks es), 0) by unfold encR; rw [hv]; rfl)
    have hvl := hv
    simp only [vL, Bool.and_eq_true, decide_eq_true_eq, List.all_eq_true] at hvl
    have hn24 : n ≤ 24 := by have := hvl.1; simp only [blks, List.length_map] at this; rw [← HL.out]; exact this
    have HVB : Hid (∀ e ∈ es, vB e.1 = true) := Lib.hid (fun e he => hvl.2.1 _ (List.mem_map_of_mem he))
    rw [hv] at KV
    clear hv hvl
    have okn : okInt (n : Int) = true := by rw [okInt_iff]; omega
    go_enter Tryz.func171, Tryz.ntmps171
    go_wp2_with fail
    refine KV.out.mono ?_
    rintro x w1 ⟨rfl, b1⟩
    have BW := Lib.hid b1
    have P0 : Hid (Put w1.heap.size w1.heap.size [] w1 (w1.alloc (.cells #[.pointer none, .slice none 0 0] 54))) := Lib.hid ⟨Lib.IsBuilderF.of (Lib.fresh_isBuilder 54 5 w1), below_alloc _ _, othersKept_below _ _ (below_alloc _ _)⟩
    clear b1 KV
    go_wp2_with fail
    refine (puti_lit [(n : Int)] _ rfl rfl (by simp [okn]) (by simp) (Nat.le_refl _) (by simp) P0.out (by simp)).mono ?_
    rintro x w2 ⟨rfl, hp2, -⟩
    obtain ⟨B, hB⟩ : ∃ B, B = w1.heap.size := ⟨_, rfl⟩
    rw [← hB] at hp2 ⊢
    have HBw : Hid (w.heap.size ≤ B) := Lib.hid (by rw [hB]; exact BW.out.size)
    have HBB : Hid (B ≤ w1.heap.size) := Lib.hid (by omega)
    clear hB P0
    have P2 : Hid (Put B B (encInt (n : Int) ++ (blks (es.take 0)).flatMap encB) w1 w2) := Lib.hid (by simpa [blks] using hp2)
    clear hp2
    go_wp2_with fail
    go_loopw [16, 6] (fun i _ wr => ∃ k : Nat, k ≤ n ∧ i = .int .i64 k ∧ Hid (Put B B (encInt (n : Int) ++ (blks (es.take k)).flatMap encB) w1 wr)) (fun i _ _ => n - (intOf i).toNat)
    case atStart => exact ⟨0, Nat.zero_le _, rfl, P2⟩
    case round =>
      obtain ⟨k, hk, rfl, hp⟩ := hrel
      have bw : Below w.heap.size w wr := BW.out.trans (hp.out.2.1.mono HBw.out)
      by_cases hlt : k < n
      · obtain ⟨b, off, e, rfl, he, hok, h9⟩ := (H.out.over bw).at_ hlt
        have HE := Lib.hid he
        obtain ⟨p0, p1, p2, p3, p4, p5, p6, p7, p8⟩ := h9
        have hve := HVB.out e (List.mem_of_getElem? he)
        have hPA := hp.out.alloc HBB.out (.cells (elB e).toArray 49)
        have hsz : B ≤ (wr.alloc (.cells (elB e).toArray 49)).heap.size := Nat.le_trans HBB.out hPA.2.1.size
        have hll : (encInt (n : Int) ++ (blks (es.take k)).flatMap encB).length ≤ 900000 := by
          have h1 := encInt_len (n : Int)
          have h2 := encs_len (blks (es.take k)) (fun x hx => by
            obtain ⟨e', he', rfl⟩ := List.mem_map.1 hx
            exact HVB.out e' (List.mem_of_mem_take he'))
          simp only [blks, List.length_map, List.length_take] at h2
          rw [List.length_append]
          simp only [blks]
          omega
        have K := Lib.hid (putblock_any B B _ e _ hPA.1 hsz hll (vB_ok hve) (fun W' hb => by
          have hW : Below w.heap.size w W' := bw.trans (((below_alloc wr (.cells (elB e).toArray 49)).mono bw.size).trans (hb.mono HBw.out))
          exact ((H.out.over hW).2.2.2.1 e (List.mem_of_getElem? he)).1.1))
        have PA := Lib.hid hPA
        clear he hok hve hPA hsz hll bw
        have hltn : (k : Int) < n := by omega
        go_wp2_with fail
        refine K.out.mono ?_
        rintro x w3 ⟨rfl, hq⟩
        have hp3 : Hid (Put B B (encInt (n : Int) ++ (blks (es.take (k + 1))).flatMap encB) w1 w3) := Lib.hid (by
          rw [blks_succ HE.out, ← List.append_assoc]
          exact PA.out.trans hq)
        clear hq PA K p0 p1 p2 p3 p4 p5 p6 p7 p8
        go_wp2
        go_roundw
        case rel => exact ⟨k + 1, by omega, by go_num, hp3⟩
        case measure => simp [intOf]; omega
      · obtain rfl : k = n := by omega
        have hE : encInt (k : Int) ++ (blks (es.take k)).flatMap encB = encL (blks es) := by
          rw [← HL.out, List.take_length]
          simp [encL, blks]
        have HI := Lib.hid hp.out.1
        rw [hE] at HI
        have hsz : B ≤ wr.heap.size := Nat.le_trans HBB.out hp.out.2.1.size
        clear hE
        go_wp2_with fail
        refine (bldString B B (encL (blks es)) wr HI.out hsz).mono ?_
        rintro x w3 ⟨rfl, -, b3, -⟩
        have BZ := Lib.hid (bw.trans (b3.mono HBw.out))
        go_wp2
        go_ret2
        rw [HR.out]
        exact ⟨rfl, BZ.out⟩
end Go.Proofs.YtlhcckjfgpcohaaGreatDoor
