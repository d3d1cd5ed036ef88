/- The walk of the law FnExactReachedOf, given what the program's ReachedOf answers. The walk of a law whose answer is a row of instructions and a bool, given what model and program answer. -/
import Derived.Test.YtcgapochcahknaaDoorRco
import Derived.Test.YtcgapochcahknaaDoorRwm
import Derived.Test.YtcgapochcahknaaDoorDru
namespace Go.Proofs.YtcgapochcahknaaDoor
open Go.ChangeShapes Go.WideShapes Go.ChangeAt Go.RowKit
set_option linter.unusedVariables false
set_option maxRecDepth 100000 in
theorem sz8 (a : Option Addr) (n cap : Nat) (w : World) (hn : n ≤ 9223372036854775807) : Calls Tryd.prog 9 #[.slice a n cap, .int .i64 1048576] w fun r w' => (∃ z : Int, r = .returned (.int .i64 z) ∧ (z < 0 ∨ 0 ≤ z ∧ n ≤ 1048576)) ∧ w' = w := by
  by_cases big : 1048576 < n
  · have h : (1048576 : Int) - (n : Int) < 0 := by omega
    go_enter Tryd.func9, Tryd.ntmps9
    go_wp2
    go_ret
    exact ⟨⟨-1, rfl, Or.inl (by decide)⟩, rfl⟩
  · have h : 0 ≤ (1048576 : Int) - (n : Int) := by omega
    go_enter Tryd.func9, Tryd.ntmps9
    go_wp2
    go_ret
    exact ⟨⟨_, rfl, Or.inr ⟨h, by omega⟩⟩, rfl⟩
end Go.Proofs.YtcgapochcahknaaDoor
namespace Go.Proofs.YtcgapochcahknaaDoor
open Go.ChangeShapes Go.WideShapes Go.ChangeAt Go.RowKit
set_option linter.unusedVariables false
set_option maxHeartbeats 8000000 in
set_option maxRecDepth 100000 in
/-- The law holds wherever model and program answer alike: a row of m instructions P0 .. P5 of their own, and GG. -/
theorem rows_law6 (w : World) (G : Forms w) (s0 : Option Addr) (n0 c0 : Nat) (O D A B C X : Nat → Int) (m0 : n0 ≤ 9223372036854775807) (A0 : ArgI w s0 n0 O D A B C X) (m : Nat) (P0 P1 P2 P3 P4 P5 : Nat → Int) (GG : Bool) (hm : n0 ≤ 1048576 → m ≤ 1048576)
    (HM : ∀ a v, RowI v a n0 O D A B C X → n0 ≤ 1048576 → Calls Tryd.prog 10 #[.slice (some ⟨a, 0, none⟩) n0 n0] v fun e w' => ∃ u, e = .returned (.tuple #[u, .bool GG]) ∧ (RowIV w' u m P0 P1 P2 P3 P4 P5 ∧ ∀ g, u.ownBlock = some g → v.heap.size ≤ g) ∧ Below v.heap.size v w')
    (HP : ∀ a v, Forms v → RowI v a n0 O D A B C X → n0 ≤ 1048576 → Calls Tryd.prog 12 #[.slice (some ⟨a, 0, none⟩) n0 n0] v fun e w' => ∃ u, e = .returned (.tuple #[u, .bool GG]) ∧ (RowIV w' u m P0 P1 P2 P3 P4 P5 ∧ ∀ g, u.ownBlock = some g → v.heap.size ≤ g) ∧ Below v.heap.size v w') :
    Calls Tryd.prog 3 #[.slice s0 n0 c0] w fun e w' => e = .returned (.bool true) ∧ Below w.heap.size w w' := by
  have HS : Hid (Calls Tryd.prog 9 #[.slice s0 n0 c0, .int .i64 1048576] w fun r w' => (∃ z : Int, r = .returned (.int .i64 z) ∧ (z < 0 ∨ 0 ≤ z ∧ n0 ≤ 1048576)) ∧ w' = w) := sz8 s0 n0 c0 w m0
  have HT : Hid (∀ w', Below w.heap.size w w' → n0 ≤ 1048576 → Calls Tryd.prog 11 #[.slice s0 n0 c0] w' fun r w'' => r = .returned (.slice (some ⟨w'.heap.size, 0, none⟩) n0 n0) ∧ RowI w'' w'.heap.size n0 O D A B C X ∧ Below w'.heap.size w' w'') := fun w' b hn => argToI (A0.next b) c0 hn
  have HF : Hid (∀ w', Below w.heap.size w w' → Forms w') := fun w' b => G.below b
  have H17 : Hid (∀ a v, RowI v a n0 O D A B C X → n0 ≤ 1048576 → Calls Tryd.prog 10 #[.slice (some ⟨a, 0, none⟩) n0 n0] v fun e w' => ∃ u, e = .returned (.tuple #[u, .bool GG]) ∧ (RowIV w' u m P0 P1 P2 P3 P4 P5 ∧ ∀ g, u.ownBlock = some g → v.heap.size ≤ g) ∧ Below v.heap.size v w') := HM
  have H18 : Hid (∀ a v, Forms v → RowI v a n0 O D A B C X → n0 ≤ 1048576 → Calls Tryd.prog 12 #[.slice (some ⟨a, 0, none⟩) n0 n0] v fun e w' => ∃ u, e = .returned (.tuple #[u, .bool GG]) ∧ (RowIV w' u m P0 P1 P2 P3 P4 P5 ∧ ∀ g, u.ownBlock = some g → v.heap.size ≤ g) ∧ Below v.heap.size v w') := HP
  clear A0 G HM HP
  go_enter Tryd.func3, Tryd.ntmps3
  go_wp2_with (go_at_call 9; refine HS.out.mono ?_)
  rintro e w1 ⟨⟨z, rfl, hz⟩, hw⟩
  subst w1
  by_cases z0 : z < 0
  · go_wp2
    go_ret
    exact ⟨rfl, Below.refl _ _⟩
  obtain ⟨_, hn⟩ := hz.resolve_left z0
  clear hz
  have HMm : Hid (m ≤ 1048576) := hm hn
  clear hm
  cases GG
  all_goals
    go_wp2_with (first | (go_at_call 11; refine (HT.out w (Below.refl _ _) hn).mono ?_; rintro e w2 ⟨rfl, X2, B2⟩) | (go_at_call 10; refine (H17.out w.heap.size w2 X2 hn).mono ?_; rintro e w3 ⟨u0, rfl, ⟨U0, V0⟩, B3⟩))
    have B03 : Hid (Below w.heap.size w w3) := B2.trans (B3.mono B2.size)
    have HU0 : Hid (RowIV w3 u0 m P0 P1 P2 P3 P4 P5) := U0
    have HV0 : Hid (∀ g, u0.ownBlock = some g → g < w3.heap.size) := U0.lt
    clear U0 V0 X2 B2 B3
    go_wp2_with (first | (go_at_call 11; refine (HT.out w3 B03.out hn).mono ?_; rintro e w4 ⟨rfl, X4, B4⟩) | (go_at_call 12; refine (H18.out w3.heap.size w4 (HF.out _ (B03.out.trans (B4.mono B03.out.size))) X4 hn).mono ?_; rintro e w5 ⟨u1, rfl, ⟨U1, V1⟩, B5⟩))
    have B35 : Hid (Below w3.heap.size w3 w5) := B4.trans (B5.mono B4.size)
    have B05 : Hid (Below w.heap.size w w5) := B03.out.trans (B35.out.mono B03.out.size)
    have U05 : Hid (RowIV w5 u0 m P0 P1 P2 P3 P4 P5) := HU0.out.next B35.out
    have U15 : Hid (RowIV w5 u1 m P0 P1 P2 P3 P4 P5) := U1
    have HV1 : Hid (∀ g, u1.ownBlock = some g → w3.heap.size < g) := fun g hg => by have := V1 g hg; have := X4.hi; omega
    have X5 : Hid (RowI w5 w3.heap.size n0 O D A B C X) := X4.next B5
    clear U1 V1 X4 B4 B5 HU0 B35
    go_wp2_with (first | (go_at_call 13; refine (eqRowIV U15.out U05.out HMm.out).mono ?_; rintro e w6 ⟨rfl, B6⟩))
    have U06 : Hid (RowIV w6 u0 m P0 P1 P2 P3 P4 P5) := U05.out.next B6
    have U16 : Hid (RowIV w6 u1 m P0 P1 P2 P3 P4 P5) := U15.out.next B6
    have X6 : Hid (RowI w6 w3.heap.size n0 O D A B C X) := X5.out.next B6
    have B06 : Hid (Below w.heap.size w w6) := B05.out.trans (B6.mono B05.out.size)
    clear U05 U15 X5 B05 B6
    go_wp2_with (first | (go_at_call 11; refine (HT.out w6 B06.out hn).mono ?_; rintro e w7 ⟨rfl, X7, B7⟩) | (go_at_call 13; refine (eqRowI (X6.out.next B7) X7 n0 n0 hn).mono ?_; rintro e w8 ⟨rfl, B8⟩))
    have B68 : Hid (Below w6.heap.size w6 w8) := B7.trans (B8.mono B7.size)
    have U08 : Hid (RowIV w8 u0 m P0 P1 P2 P3 P4 P5) := U06.out.next B68.out
    have U18 : Hid (RowIV w8 u1 m P0 P1 P2 P3 P4 P5) := U16.out.next B68.out
    have X8 : Hid (RowI w8 w3.heap.size n0 O D A B C X) := X6.out.next B68.out
    have B08 : Hid (Below w.heap.size w w8) := B06.out.trans (B68.out.mono B06.out.size)
    have h14 := markI X8.out n0 hn
    have kk : ¬ ((1 + 6 * n0 : Nat) : Int) < 0 := by omega
    generalize ((1 + 6 * n0 : Nat) : Int) = kz at h14 kk
    clear U06 U16 X6 B06 B7 B8 X7 B68 X8
    go_wp2_with (go_at_call 14; refine h14.mono ?_; rintro e w9 ⟨rfl, X9, K9⟩)
    have G9 : w8.grownBy w9 (some w3.heap.size) := ⟨K9.os, K9.tape, K9.output, K9.size, fun k hk hne => K9.block k hk (fun e => hne (by rw [e]))⟩
    have U09 : Hid (RowIV w9 u0 m P0 P1 P2 P3 P4 P5) := U08.out.grown G9 (by
      cases e : u0.ownBlock with
      | none => exact Or.inl rfl
      | some g => right; intro q; injection q with q; have := HV0.out g e; omega)
    have U19 : Hid (RowIV w9 u1 m P0 P1 P2 P3 P4 P5) := U18.out.grown G9 (by
      cases e : u1.ownBlock with
      | none => exact Or.inl rfl
      | some g => right; intro q; injection q with q; have := HV1.out g e; omega)
    have B09 : Hid (Below w.heap.size w w9) := B08.out.trans (K9.below B03.out.size B08.out.size)
    clear X9 K9 G9 h14 U08 U18 B08
    go_wp2_with (go_at_call 13; refine (eqRowIV U19.out U09.out HMm.out).mono ?_; rintro e w10 ⟨rfl, B10⟩)
    have h15 := markIV (U19.out.next B10) HMm.out
    have U010 : Hid (RowIV w10 u0 m P0 P1 P2 P3 P4 P5) := U09.out.next B10
    have B010 : Hid (Below w.heap.size w w10) := B09.out.trans (B10.mono B09.out.size)
    have H16 : Hid (∀ v, RowIV v u1 m mkI0 mkI1 mkI2 mkI3 mkI4 mkI5 → Calls Tryd.prog 15 #[u1, .int .i64 1] v fun r w' => r = .returned (.int .i64 ((1 + 6 * m : Nat) : Int)) ∧ Below v.heap.size v w') := fun v U => heldIV U HMm.out
    have qq : ¬ ((1 + 6 * m : Nat) : Int) < 0 := by omega
    generalize ((1 + 6 * m : Nat) : Int) = qz at h15 H16 qq
    clear B10 U09 U19 B09
    go_wp2_with (first | (go_at_call 14; refine h15.mono ?_; rintro e w11 ⟨rfl, M11, K11⟩) | (go_at_call 15; refine (H16.out w11 M11).mono ?_; rintro e w12 ⟨rfl, B12⟩))
    have U011 : Hid (RowIV w11 u0 m P0 P1 P2 P3 P4 P5) := U010.out.grown K11 (by
      cases e : u0.ownBlock with
      | none => exact Or.inl rfl
      | some g => right; intro q; have h1 := HV0.out g e; have h2 := HV1.out g q.symm; omega)
    have B011 : Hid (Below w.heap.size w w11) := B010.out.grown K11 B010.out.size (fun k hk => by have := HV1.out k hk; have := B03.out.size; omega)
    have U012 : Hid (RowIV w12 u0 m P0 P1 P2 P3 P4 P5) := U011.out.next B12
    have M12 : Hid (RowIV w12 u1 m mkI0 mkI1 mkI2 mkI3 mkI4 mkI5) := M11.next B12
    have B012 : Hid (Below w.heap.size w w12) := B011.out.trans (B12.mono B011.out.size)
    clear K11 h15 U010 B010 U011 B011 M11 B12
    go_wp2_with (first | (go_at_call 11; refine (HT.out w12 B012.out hn).mono ?_; rintro e w13 ⟨rfl, X13, B13⟩) | (go_at_call 12; refine (H18.out w12.heap.size w13 (HF.out _ (B012.out.trans (B13.mono B012.out.size))) X13 hn).mono ?_; rintro e w14 ⟨u2, rfl, ⟨U2, _⟩, B14⟩))
    have B1114 : Hid (Below w12.heap.size w12 w14) := B13.trans (B14.mono B13.size)
    have U014 : Hid (RowIV w14 u0 m P0 P1 P2 P3 P4 P5) := U012.out.next B1114.out
    have M14 : Hid (RowIV w14 u1 m mkI0 mkI1 mkI2 mkI3 mkI4 mkI5) := M12.out.next B1114.out
    have U214 : Hid (RowIV w14 u2 m P0 P1 P2 P3 P4 P5) := U2
    have B014 : Hid (Below w.heap.size w w14) := B012.out.trans (B1114.out.mono B012.out.size)
    clear U2 X13 B13 B14 M12 U012 B012 B1114
    go_wp2_with (first | (go_at_call 13; refine (eqRowIV U214.out U014.out HMm.out).mono ?_; rintro e w15 ⟨rfl, B15⟩) | (go_at_call 15; refine (H16.out w15 (M14.out.next B15)).mono ?_; rintro e w16 ⟨rfl, B16⟩))
    go_ret
    have B015 := B014.out.trans (B15.mono B014.out.size)
    exact ⟨rfl, B015.trans (B16.mono B015.size)⟩
end Go.Proofs.YtcgapochcahknaaDoor
