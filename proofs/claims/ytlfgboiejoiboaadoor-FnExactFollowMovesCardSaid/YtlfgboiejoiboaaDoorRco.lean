/- The model's ReachedOf. -/
import Derived.Test.YtlfgboiejoiboaaDoorRbs
import Derived.Test.YtlfgboiejoiboaaDoorEnc
namespace Go.Proofs.YtlfgboiejoiboaaDoor
open Go.ChangeShapes Go.WideShapes Go.ChangeAt Go.RowKit
set_option linter.unusedVariables false
theorem goodC_bds {O D A B C X : Nat → Int} {n : Nat} (h : goodC O D A B C X n = true) : n ≤ 600 ∧ 1 ≤ n ∧ ∀ k, k < n → Bds (O k) (D k) (A k) (B k) (C k) (X k) := by
  unfold goodC at h
  simp only [Bool.and_eq_true, decide_eq_true_eq] at h
  obtain ⟨⟨h1, h2⟩, h3, _⟩ := h
  exact ⟨h2, h1, fun k hk => bds_of (allB_at _ n k h3 hk) (by omega)⟩
/-- How many answers ReachedOf gives. -/
def rcN (O D A B C X : Nat → Int) (n : Nat) : Nat := if goodC O D A B C X n then n else 0
theorem BRow.bel {w w' : World} {lo hi p : Nat} {v : Value} {f : Nat → Bool} {n : Nat} (h : BRow w lo hi v f n) (b : Only p w w') (hp : p < lo) : BRow w' lo hi v f n := by
  rcases h with h | ⟨g, c, hv, h1, h2, O⟩
  · exact Or.inl h
  · exact Or.inr ⟨g, c, hv, h1, h2, O.but b (by omega)⟩
set_option maxRecDepth 100000 in
theorem reached9 (n a cap : Nat) (O D A B C X : Nat → Int) (w : World) (R : RowI w a n O D A B C X) (hX : Wds X n) (hn : n ≤ 1048576) : Calls Tryd.prog 9 #[.slice (some ⟨a, 0, none⟩) n cap] w fun e w' => ∃ u, e = .returned (.tuple #[u, .bool (goodC O D A B C X n)]) ∧ BRow w' w.heap.size w'.heap.size u (rchB O A B C n) (rcN O D A B C X n) ∧ Below w.heap.size w w' := by
  have h9 := good9 n a cap O D A B C X w R hX hn
  cases hg : goodC O D A B C X n
  · have HV : Hid (rcN O D A B C X n = 0) := by show _ = _; unfold rcN; rw [hg]; rfl
    rw [hg] at h9
    clear hX R hg
    generalize rcN O D A B C X n = m at HV ⊢
    go_enter Tryd.func9, Tryd.ntmps9
    go_wp2_with (go_at_call 26; refine h9.mono ?_; rintro e w1 ⟨rfl, B1⟩)
    go_ret2
    exact ⟨_, rfl, Or.inl ⟨HV.out, _, _, rfl⟩, B1⟩
  · have HV : Hid (rcN O D A B C X n = n) := by show _ = _; unfold rcN; rw [hg]; rfl
    obtain ⟨h6, h1, hb⟩ := goodC_bds hg
    have H27 : Hid (∀ v, RowI v a n O D A B C X → Calls Tryd.prog 27 #[.slice (some ⟨a, 0, none⟩) n cap] v fun e w' => e = .returned (.slice (some ⟨v.heap.size, 0, none⟩) n n) ∧ Own w' v.heap.size n (fun i => .bool (rchB O A B C n i)) ∧ Below v.heap.size v w') := fun v r => reached27 n a cap O D A B C X v r h1 h6 (fun k hk => ⟨((hb k hk).2 1 (by omega)).1, ((hb k hk).2 2 (by omega)).1, ((hb k hk).2 3 (by omega)).1⟩)
    have HR : Hid (RowI w a n O D A B C X) := R
    rw [hg] at h9
    clear hX R hg hb
    generalize rcN O D A B C X n = m at HV ⊢
    go_enter Tryd.func9, Tryd.ntmps9
    go_wp2_with (first | (go_at_call 26; refine h9.mono ?_; rintro e w1 ⟨rfl, B1⟩) | (go_at_call 27; refine (H27.out w1 (HR.out.next B1)).mono ?_; rintro e w2 ⟨rfl, O2, B2⟩))
    go_ret2
    exact ⟨_, rfl, Or.inr ⟨w1.heap.size, n, by rw [HV.out]; rfl, B1.size, O2.hi, by rw [HV.out]; exact O2⟩, B1.trans (B2.mono B1.size)⟩
end Go.Proofs.YtlfgboiejoiboaaDoor
