/- The walk of the law FnExactReachedOf, given what the program's ReachedOf answers. -/
import Derived.Test.YtlfgboiejoiboaaDoorRco
import Derived.Test.YtlfgboiejoiboaaDoorRwm
namespace Go.Proofs.YtlfgboiejoiboaaDoor
open Go.ChangeShapes Go.WideShapes Go.ChangeAt Go.RowKit
set_option linter.unusedVariables false
set_option maxRecDepth 100000 in
theorem sz8 (a : Option Addr) (n cap : Nat) (w : World) (hn : n ≤ 9223372036854775807) : Calls Tryd.prog 8 #[.slice a n cap, .int .i64 1048576] w fun r w' => (∃ z : Int, r = .returned (.int .i64 z) ∧ (z < 0 ∨ 0 ≤ z ∧ n ≤ 1048576)) ∧ w' = w := by
  by_cases big : 1048576 < n
  · have h : (1048576 : Int) - (n : Int) < 0 := by omega
    go_enter Tryd.func8, Tryd.ntmps8
    go_wp2
    go_ret
    exact ⟨⟨-1, rfl, Or.inl (by decide)⟩, rfl⟩
  · have h : 0 ≤ (1048576 : Int) - (n : Int) := by omega
    go_enter Tryd.func8, Tryd.ntmps8
    go_wp2
    go_ret
    exact ⟨⟨_, rfl, Or.inr ⟨h, by omega⟩⟩, rfl⟩
set_option maxHeartbeats 8000000 in
set_option maxRecDepth 100000 in
/-- The law holds wherever the program's ReachedOf answers so. -/
theorem reached_law (w : World) (G : Forms w) (s0 : Option Addr) (n0 c0 : Nat) (O D A B C X : Nat → Int) (m0 : n0 ≤ 9223372036854775807) (A0 : ArgI w s0 n0 O D A B C X) (x0 : ∀ i, 0 ≤ X i ∧ X i < 4294967296)
    (HP : ∀ a v, Forms v → RowI v a n0 O D A B C X → n0 ≤ 1048576 → Calls Tryd.prog 11 #[.slice (some ⟨a, 0, none⟩) n0 n0] v fun e w' => ∃ u, e = .returned (.tuple #[u, .bool (goodC O D A B C X n0)]) ∧ BRow w' v.heap.size w'.heap.size u (rchB O A B C n0) (rcN O D A B C X n0) ∧ Below v.heap.size v w') :
    Calls Tryd.prog 3 #[.slice s0 n0 c0] w fun e w' => e = .returned (.bool true) ∧ Below w.heap.size w w' := by
  have HS : Hid (Calls Tryd.prog 8 #[.slice s0 n0 c0, .int .i64 1048576] w fun r w' => (∃ z : Int, r = .returned (.int .i64 z) ∧ (z < 0 ∨ 0 ≤ z ∧ n0 ≤ 1048576)) ∧ w' = w) := sz8 s0 n0 c0 w m0
  have HT : Hid (∀ w', Below w.heap.size w w' → n0 ≤ 1048576 → Calls Tryd.prog 10 #[.slice s0 n0 c0] w' fun r w'' => r = .returned (.slice (some ⟨w'.heap.size, 0, none⟩) n0 n0) ∧ RowI w'' w'.heap.size n0 O D A B C X ∧ Below w'.heap.size w' w'') := fun w' b hn => argToI (A0.next b) c0 hn
  have HF : Hid (∀ w', Below w.heap.size w w' → Forms w') := fun w' b => G.below b
  have HX : Wds X n0 := fun i _ => x0 i
  have HM0 : rcN O D A B C X n0 ≤ n0 := by unfold rcN; split <;> omega
  clear A0 x0 G
  go_enter Tryd.func3, Tryd.ntmps3
  go_wp2_with (go_at_call 8; refine HS.out.mono ?_)
  rintro e w1 ⟨⟨z, rfl, hz⟩, hw⟩
  subst w1
  by_cases z0 : z < 0
  · go_wp2
    go_ret
    exact ⟨rfl, Below.refl _ _⟩
  obtain ⟨_, hn⟩ := hz.resolve_left z0
  clear hz
  have H9' : ∀ a v, RowI v a n0 O D A B C X → Calls Tryd.prog 9 #[.slice (some ⟨a, 0, none⟩) n0 n0] v fun e w' => ∃ u, e = .returned (.tuple #[u, .bool (goodC O D A B C X n0)]) ∧ BRow w' v.heap.size w'.heap.size u (rchB O A B C n0) (rcN O D A B C X n0) ∧ Below v.heap.size v w' := fun a v R => reached9 n0 a n0 O D A B C X v R HX hn
  have HP' := fun a v g R => HP a v g R hn
  generalize goodC O D A B C X n0 = GG at H9' HP'
  generalize rcN O D A B C X n0 = m at H9' HP' HM0
  generalize rchB O A B C n0 = F at H9' HP'
  have hm : m ≤ 1048576 := by omega
  have HM : Hid (m ≤ 1048576) := hm
  have H9 : Hid (∀ a v, RowI v a n0 O D A B C X → Calls Tryd.prog 9 #[.slice (some ⟨a, 0, none⟩) n0 n0] v fun e w' => ∃ u, e = .returned (.tuple #[u, .bool GG]) ∧ BRow w' v.heap.size w'.heap.size u F m ∧ Below v.heap.size v w') := H9'
  have H11 : Hid (∀ a v, Forms v → RowI v a n0 O D A B C X → Calls Tryd.prog 11 #[.slice (some ⟨a, 0, none⟩) n0 n0] v fun e w' => ∃ u, e = .returned (.tuple #[u, .bool GG]) ∧ BRow w' v.heap.size w'.heap.size u F m ∧ Below v.heap.size v w') := HP'
  clear H9' HP' HP hm HM0
  cases GG
  all_goals
    go_wp2_with (first | (go_at_call 10; refine (HT.out w (Below.refl _ _) hn).mono ?_; rintro e w2 ⟨rfl, X2, B2⟩) | (go_at_call 9; refine (H9.out w.heap.size w2 X2).mono ?_; rintro e w3 ⟨u0, rfl, U0, B3⟩))
    have B03 : Hid (Below w.heap.size w w3) := B2.trans (B3.mono B2.size)
    have HU0 : Hid (BRow w3 w2.heap.size w3.heap.size u0 F m) := U0
    clear U0 X2 B2 B3
    go_wp2_with (first | (go_at_call 10; refine (HT.out w3 B03.out hn).mono ?_; rintro e w4 ⟨rfl, X4, B4⟩) | (go_at_call 11; refine (H11.out w3.heap.size w4 (HF.out _ (B03.out.trans (B4.mono B03.out.size))) X4).mono ?_; rintro e w5 ⟨u1, rfl, U1, B5⟩))
    have B35 : Hid (Below w3.heap.size w3 w5) := B4.trans (B5.mono B4.size)
    have B05 : Hid (Below w.heap.size w w5) := B03.out.trans (B35.out.mono B03.out.size)
    have U05 : Hid (BRow w5 w2.heap.size w3.heap.size u0 F m) := HU0.out.next B35.out
    have U15 : Hid (BRow w5 w4.heap.size w5.heap.size u1 F m) := U1
    have X5 : Hid (RowI w5 w3.heap.size n0 O D A B C X) := X4.next B5
    have L34 : Hid (w3.heap.size < w4.heap.size) := X4.hi
    clear U1 X4 B4 B5 HU0 B35
    go_wp2_with (first | (go_at_call 12; refine (eqBR U15.out U05.out HM.out).mono ?_; rintro e w6 ⟨rfl, B6⟩) | (go_at_call 10; refine (HT.out w6 (B05.out.trans (B6.mono B05.out.size)) hn).mono ?_; rintro e w7 ⟨rfl, X7, B7⟩) | (go_at_call 13; refine (eqRowI ((X5.out.next B6).next B7) X7 n0 n0 hn).mono ?_; rintro e w8 ⟨rfl, B8⟩))
    have B58 : Hid (Below w5.heap.size w5 w8) := (B6.trans (B7.mono B6.size)).trans (B8.mono (by have := B6.size; have := B7.size; omega))
    have U08 : Hid (BRow w8 w2.heap.size w3.heap.size u0 F m) := U05.out.next B58.out
    have U18 : Hid (BRow w8 w4.heap.size w5.heap.size u1 F m) := U15.out.next B58.out
    have X8 : Hid (RowI w8 w3.heap.size n0 O D A B C X) := X5.out.next B58.out
    have B08 : Hid (Below w.heap.size w w8) := B05.out.trans (B58.out.mono B05.out.size)
    have h14 := markI X8.out n0 hn
    have kk : ¬ ((1 + 6 * n0 : Nat) : Int) < 0 := by omega
    generalize ((1 + 6 * n0 : Nat) : Int) = kz at h14 kk
    clear B6 B7 B8 X7 U05 U15 X5 B05 B58 X8
    go_wp2_with (go_at_call 14; refine h14.mono ?_; rintro e w9 ⟨rfl, X9, K9⟩)
    have U09 : Hid (BRow w9 w2.heap.size w3.heap.size u0 F m) := U08.out.but K9 (Nat.le_refl _)
    have U19 : Hid (BRow w9 w4.heap.size w5.heap.size u1 F m) := U18.out.bel K9 L34.out
    have B09 : Hid (Below w.heap.size w w9) := B08.out.trans (K9.below B03.out.size B08.out.size)
    clear X9 K9 h14 U08 U18 B08
    go_wp2_with (go_at_call 12; refine (eqBR U19.out U09.out HM.out).mono ?_; rintro e w10 ⟨rfl, B10⟩)
    have h15 := markBR (U19.out.next B10) HM.out
    have U010 : Hid (BRow w10 w2.heap.size w3.heap.size u0 F m) := U09.out.next B10
    have B010 : Hid (Below w.heap.size w w10) := B09.out.trans (B10.mono B09.out.size)
    have H16 : Hid (∀ v, BRow v w4.heap.size w5.heap.size u1 (fun i => ((1 + i : Nat) : Int) % 3 == 0) m → Calls Tryd.prog 16 #[u1, .int .i64 1] v fun r w' => r = .returned (.int .i64 ((1 + m : Nat) : Int)) ∧ w' = v) := fun v U => heldBR U HM.out
    have qq : ¬ ((1 + m : Nat) : Int) < 0 := by omega
    generalize ((1 + m : Nat) : Int) = qz at h15 H16 qq
    clear B10 U09 U19 B09
    go_wp2_with (first | (go_at_call 15; refine h15.mono ?_; rintro e w11 ⟨rfl, M11, p, hp, K11⟩) | (go_at_call 16; refine (H16.out w11 M11).mono ?_; rintro e w12 ⟨rfl, hw⟩; subst w12))
    have U011 : Hid (BRow w11 w2.heap.size w3.heap.size u0 F m) := U010.out.but K11 (by have := L34.out; omega)
    have B011 : Hid (Below w.heap.size w w11) := B010.out.trans (K11.below (by have := L34.out; have := B03.out.size; omega) B010.out.size)
    clear K11 h15 U010 B010
    go_wp2_with (first | (go_at_call 10; refine (HT.out w11 B011.out hn).mono ?_; rintro e w13 ⟨rfl, X13, B13⟩) | (go_at_call 11; refine (H11.out w11.heap.size w13 (HF.out _ (B011.out.trans (B13.mono B011.out.size))) X13).mono ?_; rintro e w14 ⟨u2, rfl, U2, B14⟩))
    have B1114 : Hid (Below w11.heap.size w11 w14) := B13.trans (B14.mono B13.size)
    have U014 : Hid (BRow w14 w2.heap.size w3.heap.size u0 F m) := U011.out.next B1114.out
    have M14 : Hid (BRow w14 w4.heap.size w5.heap.size u1 (fun i => ((1 + i : Nat) : Int) % 3 == 0) m) := M11.next B1114.out
    have U214 : Hid (BRow w14 w13.heap.size w14.heap.size u2 F m) := U2
    have B014 : Hid (Below w.heap.size w w14) := B011.out.trans (B1114.out.mono B011.out.size)
    clear U2 X13 B13 B14 M11 U011 B011 B1114
    go_wp2_with (first | (go_at_call 12; refine (eqBR U214.out U014.out HM.out).mono ?_; rintro e w15 ⟨rfl, B15⟩) | (go_at_call 16; refine (H16.out w15 (M14.out.next B15)).mono ?_; rintro e w16 ⟨rfl, hw⟩; subst w16))
    go_ret
    exact ⟨rfl, B014.out.trans (B15.mono B014.out.size)⟩
end Go.Proofs.YtlfgboiejoiboaaDoor
