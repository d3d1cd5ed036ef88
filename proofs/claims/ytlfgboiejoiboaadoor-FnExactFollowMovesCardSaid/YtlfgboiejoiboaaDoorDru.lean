/- The model's DropUnreached. -/
import Derived.Test.YtlfgboiejoiboaaDoorUnr
import Derived.Test.YtlfgboiejoiboaaDoorRco
namespace Go.Proofs.YtlfgboiejoiboaaDoor
open Go.ChangeShapes Go.WideShapes Go.ChangeAt Go.RowKit
set_option linter.unusedVariables false
theorem okF_at {o d a b c x n : Int} (h : okF o d a b c x n 5 = true) (f : Nat) (hf : f < 5) : inB (val d a b c x f) (gv o f n) = true := by
  cases hv : inB (val d a b c x f) (gv o f n)
  · rw [okF_stop o d a b c x n f hv 5 hf] at h; cases h
  · rfl
theorem tgs_of {O D A B C X : Nat → Int} {n : Nat} (h : goodC O D A B C X n = true) : Tgs O A B C n := by
  unfold goodC at h
  simp only [Bool.and_eq_true, decide_eq_true_eq] at h
  obtain ⟨⟨h1, h2⟩, h3, _⟩ := h
  intro k hk
  have hg := allB_at _ n k h3 hk
  have hf : okF (O k) (D k) (A k) (B k) (C k) (X k) (n : Int) 5 = true := by
    unfold gdI goodI at hg
    rw [Bool.and_eq_true] at hg
    exact hg.1
  have f1 := okF_at hf 1 (by omega)
  have f2 := okF_at hf 2 (by omega)
  have f3 := okF_at hf 3 (by omega)
  refine ⟨fun h8 => ?_, fun h9 => ?_⟩
  · rw [h8] at f1
    simp [gv, nmd, isN, val, inB] at f1
    omega
  · rw [h9] at f2 f3
    simp [gv, nmd, isN, val, inB] at f2 f3
    omega
theorem tkN_pos (O : Nat → Int) (Z : Nat → Bool) (n : Nat) (h : 1 ≤ n) : 1 ≤ tkN O Z n := by
  unfold tkN
  split
  · rename_i ht
    unfold takB at ht
    simp only [Bool.and_eq_true, decide_eq_true_eq] at ht
    omega
  · exact h
/-- How many instructions DropUnreached answers. -/
noncomputable def duN (O D A B C X : Nat → Int) (n : Nat) : Nat := if goodC O D A B C X n then tkN O (unB O A B C n) n else 0
set_option maxRecDepth 100000 in
set_option maxHeartbeats 2000000 in
theorem drop17 (n a cap : Nat) (O D A B C X : Nat → Int) (w : World) (R : RowI w a n O D A B C X) (hX : Wds X n) (hn : n ≤ 1048576) : Calls Tryd.prog 17 #[.slice (some ⟨a, 0, none⟩) n cap] w fun e w' => ∃ u, e = .returned (.tuple #[u, .bool (goodC O D A B C X n)]) ∧ (RowIV w' u (duN O D A B C X n) (fun i => O (tkP O (unB O A B C n) n i)) (fun i => D (tkP O (unB O A B C n) n i)) (tkA O A (unB O A B C n) n) (tkB O B (unB O A B C n) n) (tkB O C (unB O A B C n) n) (fun i => X (tkP O (unB O A B C n) n i)) ∧ ∀ g, u.ownBlock = some g → w.heap.size ≤ g) ∧ Below w.heap.size w w' := by
  have h9 := good9 n a cap O D A B C X w R hX hn
  cases hg : goodC O D A B C X n
  · have HV : Hid (duN O D A B C X n = 0) := by show _ = _; unfold duN; rw [hg]; rfl
    rw [hg] at h9
    clear hX R hg
    generalize duN O D A B C X n = m at HV ⊢
    go_enter Tryd.func17, Tryd.ntmps17
    go_wp2_with (go_at_call 26; refine h9.mono ?_; rintro e w1 ⟨rfl, B1⟩)
    go_ret2
    exact ⟨_, rfl, ⟨Or.inl ⟨HV.out, rfl⟩, fun g hg => by cases hg⟩, B1⟩
  · have HV : Hid (duN O D A B C X n = tkN O (unB O A B C n) n) := by show _ = _; unfold duN; rw [hg]; rfl
    obtain ⟨h6, h1, hb⟩ := goodC_bds hg
    have hT := tgs_of hg
    have H33 : Hid (∀ v, RowI v a n O D A B C X → Calls Tryd.prog 34 #[.slice (some ⟨a, 0, none⟩) n cap] v fun e w' => ∃ u, e = .returned u ∧ TkR w' u O D A B C X (unB O A B C n) n ∧ Below v.heap.size v w') := fun v r => unreached33 n a cap O D A B C X v r h1 h6 (fun k hk => ⟨((hb k hk).2 1 (by omega)).1, ((hb k hk).2 2 (by omega)).1, ((hb k hk).2 3 (by omega)).1⟩) hT
    have HL : Hid (1 ≤ tkN O (unB O A B C n) n ∧ tkN O (unB O A B C n) n ≤ 600) := ⟨tkN_pos O _ n h1, by have := tkN_le O (unB O A B C n) n; omega⟩
    have HR : Hid (RowI w a n O D A B C X) := R
    rw [hg] at h9
    clear hX R hg hb hT
    generalize duN O D A B C X n = m at HV ⊢
    generalize unB O A B C n = U at HV H33 HL ⊢
    go_enter Tryd.func17, Tryd.ntmps17
    go_wp2_with (first | (go_at_call 26; refine h9.mono ?_; rintro e w1 ⟨rfl, B1⟩) | (go_at_call 34; refine (H33.out w1 (HR.out.next B1)).mono ?_; rintro e w2 ⟨u, rfl, T2, B2⟩; (obtain ⟨g, c, rfl, R2⟩ := T2)) | (go_at_call 33; refine (copy32 _ g c _ _ _ _ _ _ w2 R2 HL.out.1 HL.out.2).mono ?_; rintro e w3 ⟨g3, c3, rfl, hg3, R3, B3⟩))
    go_ret2
    have B12 := B1.trans (B2.mono B1.size)
    exact ⟨_, rfl, ⟨by rw [HV.out]; exact Or.inr ⟨g3, c3, rfl, R3⟩, fun q hq => by simp [Value.ownBlock] at hq; have := B12.size; omega⟩, B12.trans (B3.mono B12.size)⟩
end Go.Proofs.YtlfgboiejoiboaaDoor
