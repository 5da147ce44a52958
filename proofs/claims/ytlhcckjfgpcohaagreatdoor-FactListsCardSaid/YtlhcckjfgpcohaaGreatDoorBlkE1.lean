import Derived.Test.YtlhcckjfgpcohaaGreatDoorBlkVL
import Derived.Test.YtlhcckjfgpcohaaGreatDoorWireI
import Derived.Test.YtlhcckjfgpcohaaGreatDoorBlkP
namespace Go.Proofs.YtlhcckjfgpcohaaGreatDoor
open Go.RowKit Go.MapKept
set_option maxRecDepth 100000
set_option linter.unusedSimpArgs false
set_option linter.unusedVariables false
/-- A builder in block b that holds the bytes. -/
abbrev IsB (B b : Nat) (l : List UInt8) (w : World) : Prop := Lib.IsBuilderF 54 5 B b (Lib.byteCells l) w
/-- What a writer leaves. -/
def Put (B b : Nat) (l : List UInt8) (w w' : World) : Prop := IsB B b l w' ∧ Below B w w' ∧ Lib.OthersKept 5 (some b) w w'
theorem Put.trans {B b : Nat} {l m : List UInt8} {w w1 w2 : World} (h : Put B b l w w1) (k : Put B b m w1 w2) : Put B b m w w2 := ⟨k.1, h.2.1.trans k.2.1, h.2.2.trans k.2.2⟩
theorem Put.alloc {B b : Nat} {l : List UInt8} {w w1 : World} (h : Put B b l w w1) (hB : B ≤ w.heap.size) (o : Obj) : Put B b l w (w1.alloc o) := ⟨h.1.alloc o, h.2.1.alloc (Nat.le_trans hB h.2.1.size) o, h.2.2.alloc o⟩
theorem Put.refl {B b : Nat} {l : List UInt8} {w : World} (h : IsB B b l w) : Put B b l w w := ⟨h, Below.refl _ _, Lib.OthersKept.refl _ _ _⟩
theorem othersKept_below {w w' : World} (e b : Nat) (h : Below w.heap.size w w') : Lib.OthersKept e (some b) w w' := by
  intro k o hk h1 h2
  exact (h.block k (Array.getElem?_eq_some_iff.1 hk).1).trans hk
theorem isB_below {B b : Nat} {l : List UInt8} {w w' : World} (h : IsB B b l w) (hb : Below w.heap.size w w') : IsB B b l w' := by
  have key : ∀ k o, w.heap[k]? = some o → w'.heap[k]? = some o := fun k o hk => (hb.block k (Array.getElem?_eq_some_iff.1 hk).1).trans hk
  have row : ∀ v n xs, w.ownsRowF B 5 1 v n xs → w'.ownsRowF B 5 1 v n xs := by
    rintro v n xs ⟨h1, h2 | ⟨g, cap, cur, fz, hv, hg, hh, rest⟩⟩
    · exact ⟨h1, .inl h2⟩
    · exact ⟨h1, .inr ⟨g, cap, cur, fz, hv, hg, key _ _ hh, rest⟩⟩
  rcases h with ⟨hB, v, hv, hown, hne⟩ | ⟨hB, v, hv, hown, hne⟩
  · exact .inl ⟨hB, v, key _ _ hv, row _ _ _ hown, hne⟩
  · exact .inr ⟨hB, v, key _ _ hv, row _ _ _ hown, hne⟩
theorem Put.below {B b : Nat} {l : List UInt8} {w w1 w2 : World} (h : Put B b l w w1) (hB : B ≤ w.heap.size) (k : Below w1.heap.size w1 w2) : Put B b l w w2 :=
  ⟨isB_below h.1 k, h.2.1.trans (k.mono (Nat.le_trans hB h.2.1.size)), h.2.2.trans (othersKept_below _ _ k)⟩
set_option maxHeartbeats 2000000 in
theorem writeString_any (B b : Nat) (l : List UInt8) (s : ByteArray) (w : World) (h : IsB B b l w) (hlen : l.length + s.size ≤ 140737488355328) (hBw : B ≤ w.heap.size) :
    Calls Tryz.prog 124 #[.pointer (some ⟨b, 0, none⟩), .string s] w fun e w' => e = .returned (.tuple #[.int .i64 s.size, .nilIface]) ∧ Put B b (l ++ s.data.toList) w w' := by
  obtain ⟨i0, hi, hz0, hz1, hz2⟩ := info_parts infoByte
  have hbl : (Lib.byteCells l).length = l.length := Lib.byteCells_length l
  go_enter Tryz.func124, Tryz.ntmps124
  go_wp2_with (go_at_call 127; refine (copyCheck_any B b _ _ h).mono ?_)
  rintro e w1 ⟨rfl, h1, hb1, hk1⟩
  obtain ⟨hB, v, hbk, hown, hne⟩ := h1
  have c0 : w1.cell? ⟨b, 0, none⟩ = some (.pointer (some ⟨b, 0, none⟩)) := by rw [Lib.cell_of_heap hbk]; rfl
  have c1 : w1.cell? ⟨b, 1, none⟩ = some v := by rw [Lib.cell_of_heap hbk]; rfl
  go_wp2_with (at_builtin; refine Lib.wpList_append_own_stringF _ rfl _ _ 52 9 rfl B 5 i0 Tryz.underlying52 Tryz.underlying9 hi hz0 hz1 hz2 _ _ _ rfl hown s rfl ?c3 ?c4 ?c5 ?_)
  case c3 => unfold maxLen; omega
  case c4 => omega
  case c5 => have := hb1.size; omega
  intro v' w2 hown' hgrow _
  have hlt : b < w1.heap.size := by
    rcases Nat.lt_or_ge b w1.heap.size with h' | h'
    · exact h'
    · simp [Array.getElem?_eq_none h'] at hbk
  have hb2 : w2.heap[b]? = some (.cells #[.pointer (some ⟨b, 0, none⟩), v] 54 (0, 0)) := by
    rw [hgrow.block b hlt (fun e => hne e.symm)]
    exact hbk
  have d0 : w2.cell? ⟨b, 0, none⟩ = some (.pointer (some ⟨b, 0, none⟩)) := by rw [Lib.cell_of_heap hb2]; rfl
  have d1 : w2.cell? ⟨b, 1, none⟩ = some v := by rw [Lib.cell_of_heap hb2]; rfl
  have f1 : w2.frozen? ⟨b, 1, none⟩ = false := Lib.frozen_of_heap hb2 1
  obtain ⟨ao, n', cap, rfl⟩ : ∃ ao n' cap, v' = .slice ao n' cap := by
    rcases hown'.2 with ⟨hv, _⟩ | ⟨g, cap, cur, fz, hv, _⟩
    · exact ⟨_, _, _, hv⟩
    · exact ⟨_, _, _, hv⟩
  go_wp2
  go_ret2
  have hs : Lib.byteCells (l ++ s.data.toList) = Lib.byteCells l ++ Lib.strCells s := by simp [Lib.byteCells, Lib.strCells]
  refine ⟨rfl, ?_, ?_, (hk1.grown hgrow (Lib.ownsRowF_kind hown)).setCell ⟨b, 1, none⟩ rfl _⟩
  · refine .inr ?_
    rw [hs]
    exact Lib.BuilderAtF.put (T := 54) (e := 5) hB hb2 (bs' := Lib.byteCells l ++ Lib.strCells s) (by simpa [Lib.strCells_length, hbl] using hown') (by decide)
  · exact (hb1.grown hgrow (by have := hb1.size; omega) (fun k hk => (hown.lt k hk).1)).setCell (p := ⟨b, 1, none⟩) hB _
theorem flatMap_take_succ (f : Int → List UInt8) (zs : List Int) (k : Nat) (h : k < zs.length) : (zs.take (k + 1)).flatMap f = (zs.take k).flatMap f ++ f (zs.getD k 0) := by
  rw [List.take_succ_eq_append_getElem h, List.flatMap_append]
  simp [List.getD, h]
theorem mk_size' (l : List UInt8) : (⟨l.toArray⟩ : ByteArray).size = l.length := by simp [ByteArray.size]
theorem encInt_len (n : Int) : (encInt n).length ≤ 9 := enc_len _ _
theorem flat_len (zs : List Int) : (zs.flatMap encInt).length ≤ 9 * zs.length := by
  induction zs with
  | nil => simp
  | cons z zs ih => rw [List.flatMap_cons, List.length_append, List.length_cons]; have := encInt_len z; omega
set_option maxHeartbeats 2000000 in
theorem puti_any (B b : Nat) (l : List UInt8) (a : Option Addr) (n c : Nat) (zs : List Int) (w : World) (hI : IsB B b l w) (hBw : B ≤ w.heap.size) (hl : l.length ≤ 1000000) (hn : n ≤ 1000)
    (hok : ∀ z ∈ zs, okInt z = true) (hv : ∀ l' W', Put B b l' w W' → IsInts .i64 W' a n c zs) :
    Calls Tryz.prog 174 #[.pointer (some ⟨b, 0, none⟩), .func (.func 172) #[] #[], .slice a n c] w fun e w' => e = .returned (.tuple #[]) ∧ Put B b (l ++ zs.flatMap encInt) w w' := by
  have h0 := hv l w (Put.refl hI)
  have hcm := h0.2.2.1
  have hnc := h0.2.1
  have HL := Lib.hid h0.1
  have HV := Lib.hid hv
  have HK := Lib.hid hok
  have P0 := Lib.hid (Put.refl hI)
  unfold maxLen at hcm
  clear h0 hv hok hI
  go_enter Tryz.func174, Tryz.ntmps174
  go_wp2
  go_loopw [12, 7, 8, 9] (fun i _ _ _ wr => ∃ k : Nat, k ≤ n ∧ i = .int .i64 k ∧ Hid (Put B b (l ++ (zs.take k).flatMap encInt) w wr)) (fun i _ _ _ _ => n - (intOf i).toNat)
  case atStart => exact ⟨0, Nat.zero_le _, rfl, by simpa using P0⟩
  case round =>
    obtain ⟨k, hk, rfl, hp⟩ := hrel
    by_cases hlt : k < n
    · have hIz := HV.out _ _ hp.out
      obtain ⟨b', off, rfl, cz⟩ := hIz.2.2.2.2.resolve_left (by omega)
      have hcell := cz k hlt
      have hkl : k < zs.length := by rw [HL.out]; exact hlt
      have hz := HK.out _ (getD_mem hkl)
      have HS := Lib.hid (flatMap_take_succ encInt zs k hkl)
      have hfl := flat_len (zs.take k)
      simp only [List.length_take] at hfl
      have HN : Hid ((l ++ (zs.take k).flatMap encInt).length + 9 ≤ 140737488355328) := Lib.hid (by rw [List.length_append]; omega)
      clear cz hkl hfl hIz
      generalize zs.getD k 0 = z at *
      have KP := Lib.hid (putInt_yes z wr hz)
      have HEL := Lib.hid (encInt_len z)
      have hsz : B ≤ wr.heap.size := Nat.le_trans hBw hp.out.2.1.size
      clear hz
      have hltn : (k : Int) < n := by omega
      go_wp2_with fail
      refine KP.out.mono ?_
      rintro e w1 ⟨rfl, b1⟩
      have hp1 := Lib.hid (hp.out.below hBw b1)
      have hsz1 : B ≤ w1.heap.size := Nat.le_trans hsz b1.size
      clear b1 hcell
      go_wp2_with fail
      refine (writeString_any B b _ ⟨(encInt z).toArray⟩ w1 hp1.out.1 (by have h1 := HN.out; have h2 := HEL.out; rw [mk_size']; omega) hsz1).mono ?_
      rintro e w2 ⟨rfl, hq⟩
      have hp2 : Hid (Put B b (l ++ (zs.take (k + 1)).flatMap encInt) w w2) := Lib.hid (by
        have := hp1.out.trans hq
        rw [HS.out, ← List.append_assoc]
        exact this)
      clear hq hp1 hsz1 hsz
      go_wp2
      go_roundw
      case rel => exact ⟨k + 1, by omega, by go_num, hp2⟩
      case measure => simp [intOf]; omega
    · obtain rfl : k = n := by omega
      have hp2 : Hid (Put B b (l ++ zs.flatMap encInt) w wr) := Lib.hid (by
        have := hp.out
        rw [← HL.out, List.take_length] at this
        exact this)
      go_wp2
      go_end0
      exact ⟨rfl, hp2.out⟩
set_option maxHeartbeats 2000000 in
theorem puts_any (B b : Nat) (l t : List UInt8) (g : Nat) (w : World) (hI : IsB B b l w) (hBw : B ≤ w.heap.size) (hl : l.length ≤ 1000000) (ht : t.length ≤ 65536)
    (hc : w.cell? ⟨g, 0, none⟩ = some (.string ⟨t.toArray⟩)) :
    Calls Tryz.prog 180 #[.pointer (some ⟨b, 0, none⟩), .func (.func 173) #[] #[], .slice (some ⟨g, 0, none⟩) 1 1] w fun e w' => e = .returned (.tuple #[]) ∧ Put B b (l ++ encS t) w w' := by
  have P0 := Lib.hid (Put.refl hI)
  have hsz := mk_size' t
  have KP := Lib.hid (putStr_yes ⟨t.toArray⟩ w (by rw [hsz]; exact ht))
  have HC := Lib.hid hc
  have HE : Hid (((⟨(encInt (⟨t.toArray⟩ : ByteArray).size).toArray⟩ : ByteArray) ++ ⟨t.toArray⟩) = ⟨(encS t).toArray⟩) := Lib.hid (by
    rw [hsz]; exact bytes_ext (by simp [encS]))
  rw [HE.out] at KP
  have HEL : Hid ((encS t).length ≤ 65600) := Lib.hid (by unfold encS; rw [List.length_append]; have := encInt_len (t.length : Int); omega)
  clear hsz hI HE ht
  generalize encS t = E at *
  go_enter Tryz.func180, Tryz.ntmps180
  go_wp2
  clear hc
  go_loopw [12, 7, 8, 9] (fun i _ _ _ wr => ∃ k : Nat, k ≤ 1 ∧ i = .int .i64 k ∧ Hid (Put B b (l ++ if k = 0 then [] else E) w wr) ∧ Hid (k = 0 → wr = w)) (fun i _ _ _ _ => 1 - (intOf i).toNat)
  case atStart => exact ⟨0, Nat.zero_le _, rfl, by simpa using P0, Lib.hid (fun _ => rfl)⟩
  case round =>
    obtain ⟨k, hk, rfl, hp, hw⟩ := hrel
    by_cases hlt : k = 0
    · subst hlt
      obtain rfl := hw.out rfl
      have hc := HC.out
      have hIB := Lib.hid P0.out.1
      clear hp hw hk
      go_wp2_with fail
      refine KP.out.mono ?_
      rintro e w1 ⟨rfl, b1⟩
      have hp1 := Lib.hid (P0.out.below hBw b1)
      have hsz1 : B ≤ w1.heap.size := Nat.le_trans hBw b1.size
      clear b1 hc
      go_wp2_with fail
      refine (writeString_any B b _ ⟨E.toArray⟩ w1 hp1.out.1 (by have h1 := HEL.out; rw [mk_size']; omega) hsz1).mono ?_
      rintro e w2 ⟨rfl, hq⟩
      have hp2 : Hid (Put B b (l ++ if 0 + 1 = 0 then [] else E) wr w2) := Lib.hid (by
        rw [if_neg (by omega)]
        exact hp1.out.trans hq)
      clear hq hp1 hsz1
      go_wp2
      go_roundw
      case rel => exact ⟨0 + 1, by omega, by go_num, hp2, Lib.hid (fun h => by omega)⟩
      case measure => simp [intOf]
    · obtain rfl : k = 1 := by omega
      have hp2 : Hid (Put B b (l ++ E) w wr) := Lib.hid (by have := hp.out; rwa [if_neg (by omega)] at this)
      clear hp hw
      go_wp2
      go_end0
      exact ⟨rfl, hp2.out⟩
end Go.Proofs.YtlhcckjfgpcohaaGreatDoor
