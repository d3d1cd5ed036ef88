/- The program's ReachedOf: what the model answers. -/
import Derived.Test.YtlfgboiejoiboaaDoorRci
import Derived.Test.YtlfgboiejoiboaaDoorRco
import Derived.Test.YtlfgboiejoiboaaDoorDru
import Derived.Lib.SliceRun
namespace Go.Proofs.YtlfgboiejoiboaaDoor
open Go.ChangeShapes Go.WideShapes Go.ChangeAt Go.RowKit
set_option linter.unusedVariables false
theorem sucs_of {O D A B C X : Nat → Int} {n : Nat} (h : goodC O D A B C X n = true) : Sucs O A B C n := by
  have hT := tgs_of h
  have hl : lastB (O (n - 1)) = true := by
    unfold goodC at h
    simp only [Bool.and_eq_true] at h
    exact h.2.2
  have hn : 1 ≤ n := (goodC_bds h).2.1
  intro k hk t ht
  unfold sucL tgL at ht
  rcases List.mem_append.1 ht with h1 | h1
  · split at h1
    · rename_i e
      have := (hT k hk).1 e
      simp at h1
      subst h1
      exact this
    · split at h1
      · rename_i e
        have := (hT k hk).2 e
        simp at h1
        rcases h1 with rfl | rfl
        · exact this.1
        · exact this.2
      · cases h1
  · split at h1
    · cases h1
    · rename_i e
      simp at h1
      subst h1
      refine ⟨by omega, ?_⟩
      by_cases ek : k = n - 1
      · subst ek
        unfold lastB at hl
        simp at hl
        omega
      · omega
def blL (f : Nat → Bool) (n : Nat) : List Value := (List.range n).map fun i => .bool (f i)
set_option maxRecDepth 100000 in
set_option maxHeartbeats 2000000 in
theorem clone31 (n g cap : Nat) (f : Nat → Bool) (w : World) (n0 : 1 ≤ n) (n1 : n ≤ 600) (O : Own w g n fun i => .bool (f i)) : Calls Tryd.prog 31 #[.slice (some ⟨g, 0, none⟩) n cap] w fun e w' => ∃ q c, e = .returned (.slice (some ⟨q, 0, none⟩) n c) ∧ w.heap.size ≤ q ∧ Own w' q n (fun i => .bool (f i)) ∧ Below w.heap.size w w' := by
  obtain ⟨i4, hi4, hz40, hz41, hz42⟩ := info_parts info4
  have HO : Hid (Own (w.alloc (.cells #[] 4)) g n fun i => .bool (f i)) := O.next ((Below.refl _ _).alloc (Nat.le_refl _) _)
  have H0 : Hid ((w.alloc (.cells #[] 4)).ownsRow w.heap.size 4 1 (.slice (some ⟨w.heap.size, 0, none⟩) 0 0) 0 []) := World.ownsRow_lit w #[] 0 (Nat.le_refl _) (by decide) rfl
  have qn : ∀ v : World, (binOp .eql 24 (.slice (some ⟨g, 0, none⟩) n cap) (.slice none 0 0)).run Tryd.prog v = .ok (.bool false) v := fun v => Lib.run_eql_slice_nil v 24 4 (some ⟨g, 0, none⟩) n cap 0 0 Tryd.underlying24
  clear O
  go_enter Tryd.func31, Tryd.ntmps31
  go_wp2_with (at_builtin; refine wpList_append_own _ rfl _ _ 24 rfl w.heap.size 4 i4 (.bool false) 1 1 Tryd.underlying24 hi4 hz40 hz41 hz42 rfl (by decide) _ _ _ rfl H0.out ⟨g, 0, none⟩ n cap (blL f n) rfl ?c0 ?c1 ?c2 ?c3 ?c4 ?c5 ?_)
  case c0 => simp [blL]
  case c1 =>
    intro j u hj
    have hjl : j < n := by have := (List.getElem?_eq_some_iff.1 hj).1; simpa [blL] using this
    have e : (⟨g, 0, none⟩ : Addr).add j = ⟨g, j, none⟩ := by simp [Addr.add]; intro h; omega
    rw [e, HO.out.cell j hjl]
    simp [blL, hjl] at hj
    rw [← hj]
  case c2 =>
    intro u hu
    simp [blL] at hu
    obtain ⟨_, _, rfl⟩ := hu
    rfl
  case c3 => unfold maxLen; omega
  case c4 => omega
  case c5 => simp
  intro v3 w3 hown hgrow _
  have hown' : w3.ownsRow w.heap.size 4 1 v3 n (blL f n) := by simpa using hown
  have B3 : Below w.heap.size w w3 := ((Below.refl _ _).alloc (Nat.le_refl _) _).grown hgrow (by simp) (fun q hq => by simp [Value.ownBlock] at hq; omega)
  obtain ⟨q, c, rfl, hg, _⟩ := World.ownsRow.form hown' (by omega)
  have O3 : Own w3 q n (fun i => .bool (f i)) := own_owned hown' _ fun i hi => by simp [blL, hi]
  clear hown hgrow hown' H0 HO
  go_wp2
  go_ret
  exact ⟨q, c, rfl, hg, O3, B3⟩
set_option maxRecDepth 100000 in
set_option maxHeartbeats 4000000 in
theorem reached11 (n a cap : Nat) (O D A B C X : Nat → Int) (w : World) (G : Forms w) (R : RowI w a n O D A B C X) (hX : Wds X n) (hn : n ≤ 1048576) : Calls Tryd.prog 11 #[.slice (some ⟨a, 0, none⟩) n cap] w fun e w' => ∃ u, e = .returned (.tuple #[u, .bool (goodC O D A B C X n)]) ∧ BRow w' w.heap.size w'.heap.size u (rchB O A B C n) (rcN O D A B C X n) ∧ Below w.heap.size w w' := by
  have h9 := good11 n a cap O D A B C X w G R hX hn
  have z44 := zv44
  cases hg : goodC O D A B C X n
  · have HV : Hid (rcN O D A B C X n = 0) := by show _ = _; unfold rcN; rw [hg]; rfl
    rw [hg] at h9
    clear hX R hg
    generalize rcN O D A B C X n = m at HV ⊢
    go_enter Tryd.func11, Tryd.ntmps11
    go_wp2_with (go_at_call 29; refine h9.mono ?_; rintro e w1 ⟨rfl, B1⟩)
    go_ret2
    exact ⟨_, rfl, Or.inl ⟨HV.out, _, _, rfl⟩, B1⟩
  · have HV : Hid (rcN O D A B C X n = n) := by show _ = _; unfold rcN; rw [hg]; rfl
    obtain ⟨h6, h1, hb⟩ := goodC_bds hg
    have HS := sucs_of hg
    have H30 : Hid (∀ v, RowI v a n O D A B C X → Calls Tryd.prog 30 #[.slice (some ⟨a, 0, none⟩) n cap] v fun e w' => e = .returned (.agg (bits (rchB O A B C n))) ∧ Below v.heap.size v w') := fun v r => reached30 n a cap O D A B C X v r h1 h6 HS
    have HR : Hid (RowI w a n O D A B C X) := R
    have q0 : (0 : Int) ≤ (n : Int) := by omega
    have q1 : (n : Int) ≤ 600 := by omega
    rw [hg] at h9
    clear hX R hg hb HS G
    generalize rcN O D A B C X n = m at HV ⊢
    generalize rchB O A B C n = F at H30 ⊢
    go_enter Tryd.func11, Tryd.ntmps11
    go_wp2_with (first | (go_at_call 29; refine h9.mono ?_; rintro e w1 ⟨rfl, B1⟩) | (go_at_call 30; refine (H30.out w1 (HR.out.next B1)).mono ?_; rintro e w2 ⟨rfl, B2⟩) | (refine wpList_store_own rfl 44 _ _ rfl w2.heap.size rfl 600 _ _ rfl (own_vals w2 (fun _ => .bool false) 600 44) (fun _ => rfl) size44 ?_; intro w3 O3 K3) | (go_at_call 31; refine (clone31 n w2.heap.size 600 F w3 h1 h6 (O3.mono h6 (fun _ _ => rfl))).mono ?_; rintro e w4 ⟨q, c, rfl, hq, O4, B4⟩))
    go_ret2
    have hA : Below w2.heap.size w2 (w2.alloc (.cells (vals (fun _ => .bool false) 600) 44)) := (Below.refl _ _).alloc (Nat.le_refl _) _
    have B12 := B1.trans (B2.mono B1.size)
    have B23 : Below w2.heap.size w2 w3 := hA.trans (K3.below (Nat.le_refl _) (by simp))
    have B13 := B12.trans (B23.mono B12.size)
    exact ⟨_, rfl, Or.inr ⟨q, c, by rw [HV.out]; rfl, by have := B13.size; omega, O4.hi, by rw [HV.out]; exact O4⟩, B13.trans (B4.mono B13.size)⟩
end Go.Proofs.YtlfgboiejoiboaaDoor
