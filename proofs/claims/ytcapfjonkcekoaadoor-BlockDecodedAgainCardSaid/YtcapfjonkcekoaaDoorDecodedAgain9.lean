/- BlockDecodedAgain: the walk of the statement's text. -/
import Derived.Test.YtcapfjonkcekoaaDoorBlkR
namespace Go.Proofs.YtcapfjonkcekoaaDoor
open Go.RowKit Go.MapKept
set_option maxRecDepth 100000
set_option linter.unusedSimpArgs false
set_option linter.unusedVariables false
/-- Where reading stands: within the text, or with one of the two errors. -/
def StOk (s : List UInt8) (σ : Int × Int) : Prop := (σ.2 = 0 ∧ 0 ≤ σ.1 ∧ σ.1 ≤ s.length) ∨ σ.2 = 10 ∨ σ.2 = 30
theorem okStI (s : List UInt8) (σ : Int × Int) (h : StOk s σ) : StOk s (rdI s σ).2 := by
  unfold rdI
  by_cases e : σ.2 = 0
  · rw [if_pos e]
    rcases h with ⟨_, h1, h2⟩ | h | h
    · unfold StOk
      rcases intAt_err s σ.1 with h0 | h0 | h0
      · obtain ⟨_, _, _, h4, h5⟩ := intAt_ok s σ.1 h0
        exact .inl ⟨h0, by omega, h5⟩
      · exfalso
        unfold intAt at h0
        rw [if_neg (by omega)] at h0
        split at h0 <;> simp at h0
      · exact .inr (.inl h0)
    · omega
    · omega
  · rw [if_neg e]; exact h
theorem okStS (s : List UInt8) (σ : Int × Int) (h : StOk s σ) : StOk s (rdS s σ).2 := by
  unfold rdS
  by_cases e : σ.2 = 0
  · rw [if_pos e]
    have hi := okStI s σ h
    unfold rdI at hi
    rw [if_pos e] at hi
    unfold strAt
    simp only
    split
    · rename_i h0
      split
      · exact .inr (.inl rfl)
      · rename_i h1
        rcases hi with ⟨_, h2, h3⟩ | h | h
        · exact .inl ⟨rfl, by simp only; omega, by simp only; omega⟩
        · omega
        · omega
    · rename_i h0
      rcases hi with ⟨h2, _⟩ | h | h
      · exact absurd h2 h0
      · exact .inr (.inl h)
      · exact .inr (.inr h)
  · rw [if_neg e]; exact h
theorem okStN {α : Type} (s : List UInt8) (f : Int × Int → α × (Int × Int)) (hf : ∀ σ, StOk s σ → StOk s (f σ).2) : ∀ (n : Nat) (σ : Int × Int), StOk s σ → StOk s (rdN f n σ).2
  | 0, σ, h => h
  | n + 1, σ, h => okStN s f hf n _ (hf σ h)
theorem okStL {α : Type} (s : List UInt8) (most : Int) (f : Int × Int → α × (Int × Int)) (hf : ∀ σ, StOk s σ → StOk s (f σ).2) (σ : Int × Int) (h : StOk s σ) : StOk s (rdL s most f σ).2 := by
  unfold rdL
  split
  · exact okStN s f hf _ _ (okStI s σ h)
  · exact .inr (.inr rfl)
theorem okStB (s : List UInt8) (σ : Int × Int) (h : StOk s σ) : StOk s (rdB s σ).2 := by
  unfold rdB
  exact okStI _ _ (okStI _ _ (okStL _ _ _ (okStI s) _ (okStI _ _ (okStI _ _ (okStI _ _ (okStS _ _ (okStI _ _ (okStI _ _ h))))))))
theorem decP_errs (s : List UInt8) : (decP s).2 = 0 ∨ (decP s).2 = 10 ∨ (decP s).2 = 30 := by
  have h := okStL s 24 (rdB s) (okStB s) (0, 0) (.inl ⟨rfl, by simp, by simp⟩)
  unfold decP
  simp only
  split
  · rename_i h0
    rcases h with ⟨h2, _⟩ | h | h
    · exact absurd h2 h0
    · exact .inr (.inl h)
    · exact .inr (.inr h)
  · split
    · exact .inr (.inl rfl)
    · split
      · exact .inr (.inr rfl)
      · exact .inl rfl
theorem cut20000 (t : ByteArray) (k : Nat) : (t.extract 0 (min (t.size : Int) (k : Int)).toNat).size ≤ k := by simp; omega
set_option maxHeartbeats 4000000 in
theorem decodedAgain9 (s : ByteArray) (w : World) (hs : s.size ≤ maxLen) :
    Calls Tryd.prog 9 #[.string s] w fun x w' => x = .returned (.bool true) ∧ Below w.heap.size w w' := by
  have hsm := hs
  unfold maxLen at hsm
  go_enter Tryd.func9, Tryd.ntmps9
  go_wp2_with fail
  refine (sane_any w).mono ?_
  rintro x w1 ⟨rfl, b1⟩
  have B1 := Lib.hid b1
  clear b1
  go_wp2_with fail
  have hc : (s.extract 0 (min (s.size : Int) 20000).toNat).size ≤ 20000 := by simp; omega
  generalize s.extract 0 (min (s.size : Int) 20000).toNat = t at *
  refine (decode_any t w1 (by unfold maxLen; omega)).mono ?_
  rintro x w2 ⟨ad, cd, ds, rfl, hd, hi, b2⟩
  have B2 := Lib.hid (bel2 B1.out b2)
  have D1 := Lib.hid hi
  have HD := Lib.hid hd
  clear b2 hi hd B1 hc hsm
  rcases decP_errs t.data.toList with h0 | h0 | h0
  · obtain ⟨hv, he⟩ := enc_dec h0
    have HE := Lib.hid he
    have HV := Lib.hid hv
    clear hv he
    rw [h0]
    go_wp2_with fail
    refine (encode_any ad _ cd ds w2 D1.out).mono ?_
    rintro x w3 ⟨rfl, b3⟩
    have B3 := Lib.hid (bel2 B2.out b3)
    have D2 := Lib.hid (D1.out.over b3)
    clear b3 B2 D1
    have hr : encR (blks ds) = (t.data.toList, 0) := by rw [HD.out]; unfold encR; rw [if_pos HV.out, HE.out]
    rw [hr]
    go_wp2_with fail
    refine (vlist_any ad _ cd ds w3 D2.out).mono ?_
    rintro x w4 ⟨rfl, b4⟩
    have B4 := Lib.hid (bel2 B3.out b4)
    rw [HD.out, HV.out]
    clear b4 B3
    go_wp2
    go_ret
    exact ⟨rfl, B4.out⟩
  · have he := decP_err t.data.toList (by omega)
    rw [h0, he]
    go_wp2
    go_ret
    exact ⟨rfl, B2.out⟩
  · have he := decP_err t.data.toList (by omega)
    rw [h0, he]
    go_wp2
    go_ret
    exact ⟨rfl, B2.out⟩
end Go.Proofs.YtcapfjonkcekoaaDoor
