/- CacheAll of both sides. -/
import Derived.Test.YtfhpjcojccfcoaaLz
namespace Go.Proofs.Ytfhpjcojccfcoaa
open Go.ChangeShapes Go.WideShapes Go.ChangeAt Go.RowKit
set_option linter.unusedVariables false
theorem Lw.next {B lb gm m hb : Nat} {w w' : World} {U : Nat → Value} {u : Value} {L : Nat → List Int} {M : List Int} {a b : Int} (h : Lw B lb gm m hb w U u L M a b) (k : Below w.heap.size w w') : Lw B lb gm m hb w' U u L M a b := ⟨h.K.next k, h.C.next k, h.R.next k, h.oU, h.ou, h.lh, h.gh, h.bh⟩
theorem Ny.mono {P Q : Nat → Prop} {w : World} {v : Value} {f : Nat → Int} {n : Nat} (h : Ny P w v f n) (q : ∀ k, P k → Q k) : Ny Q w v f n := by
  rcases h with h | ⟨g, c, hv, h1, O⟩
  · exact Or.inl h
  · exact Or.inr ⟨g, c, hv, q g h1, O⟩
set_option maxRecDepth 100000 in
set_option maxHeartbeats 2000000 in
theorem pca_bad (s y l p c : Int) (v pv : Value) (n : Nat) (f : Nat → List Int) (ls : List Int) (w : World) (R : ARows w v n f) (Q : ARow w pv ls) (hn : n ≤ 1048576) (hfl : ∀ x, x < n → (f x).length ≤ 1048576) (hls : ls.length ≤ 1048576) (hb : (goodB s y l p n f c && accB ls) = false) : Calls Try.prog 35 #[.agg #[.int .i64 s, .int .i64 y, .int .i64 l, .int .i64 p, v, .int .i64 c], pv] w fun e w' => e = .returned (.tuple #[.agg #[.int .i64 0, .int .i64 0, .int .i64 0, .int .i64 0, .slice none 0 0, .int .i64 0], .agg #[.int .i64 0, .int .i64 0, .slice none 0 0], .bool false]) ∧ Below w.heap.size w w' := by
  obtain ⟨ad, cap, hv, hR0⟩ := id R
  subst hv
  obtain ⟨pa, pc, hv, _⟩ := id Q
  subst hv
  have hR := R
  clear R hR0
  obtain ⟨W, hW⟩ : ∃ W, W = ((w.alloc (.cells #[.int .i64 s, .int .i64 y, .int .i64 l, .int .i64 p, .slice ad n cap, .int .i64 c] 42)).alloc (.cells #[.int .i64 0, .int .i64 0, .int .i64 0, .int .i64 0, .slice none 0 0, .int .i64 0] 42)).alloc (.cells #[.int .i64 0, .int .i64 0, .slice none 0 0] 57) := ⟨_, rfl⟩
  have BW : Below w.heap.size w W := by rw [hW]; exact (((Below.refl _ _).alloc (Nat.le_refl _) _).alloc (by rw [World.size_alloc]; omega) _).alloc (by rw [World.size_alloc, World.size_alloc]; omega) _
  have D0 : C6 W w.heap.size (.int .i64 s) (.int .i64 y) (.int .i64 l) (.int .i64 p) (.slice ad n cap) (.int .i64 c) := by rw [hW]; exact ((C6.new _ _ _ _ _ _ _ _).next alloc_b).next alloc_b
  have D1 : C6 W (w.heap.size + 1) (.int .i64 0) (.int .i64 0) (.int .i64 0) (.int .i64 0) (.slice none 0 0) (.int .i64 0) := by
    rw [hW]
    have h := (C6.new (w.alloc (.cells #[.int .i64 s, .int .i64 y, .int .i64 l, .int .i64 p, .slice ad n cap, .int .i64 c] 42)) 42 (.int .i64 0) (.int .i64 0) (.int .i64 0) (.int .i64 0) (.slice none 0 0) (.int .i64 0)).next (alloc_b (o := .cells #[.int .i64 0, .int .i64 0, .slice none 0 0] 57))
    rwa [World.size_alloc] at h
  have D2 : C3 W (w.heap.size + 1 + 1) (.int .i64 0) (.int .i64 0) (.slice none 0 0) := by
    rw [hW]
    have h := C3.new ((w.alloc (.cells #[.int .i64 s, .int .i64 y, .int .i64 l, .int .i64 p, .slice ad n cap, .int .i64 c] 42)).alloc (.cells #[.int .i64 0, .int .i64 0, .int .i64 0, .int .i64 0, .slice none 0 0, .int .i64 0] 42)) 57 (.int .i64 0) (.int .i64 0) (.slice none 0 0)
    rwa [World.size_alloc, World.size_alloc] at h
  have HD : Hid (∀ w', Below W.heap.size W w' → C6 w' w.heap.size (.int .i64 s) (.int .i64 y) (.int .i64 l) (.int .i64 p) (.slice ad n cap) (.int .i64 c) ∧ C6 w' (w.heap.size + 1) (.int .i64 0) (.int .i64 0) (.int .i64 0) (.int .i64 0) (.slice none 0 0) (.int .i64 0) ∧ C3 w' (w.heap.size + 1 + 1) (.int .i64 0) (.int .i64 0) (.slice none 0 0)) := fun w' b => ⟨D0.next b, D1.next b, D2.next b⟩
  have HBW := Hid.mk BW
  have HRW : Hid (∀ w', Below w.heap.size w w' → ARows w' (.slice ad n cap) n f) := fun w' b => hR.next b
  have HQW : Hid (∀ w', Below w.heap.size w w' → ARow w' (.slice pa ls.length pc) ls) := fun w' b => Q.next b
  have hG := pgood s y l p (.slice ad n cap) c n f W (HRW.out W BW) hn hfl
  clear D0 D1 D2 BW hR HRW hn hfl Q
  cases hg : goodB s y l p n f c
  case false =>
    rw [hg] at hG
    clear hb hg
    subst hW
    go_enter Try.func35, Try.ntmps35
    go_wp2_with (first | (go_at_call 31; refine hG.mono ?_; rintro e w2 ⟨rfl, B2⟩; (obtain ⟨E0, E1, E2⟩ := HD.out w2 B2); (have q0 := E1.c0); (have q1 := E1.c1); (have q2 := E1.c2); (have q3 := E1.c3); (have q4 := E1.c4); (have q5 := E1.c5); (have qf := E1.f); (have t0 := E2.c0); (have t1 := E2.c1); (have t2 := E2.c2); (have tf := E2.f)))
    have FN0 := E1.put (.int .i64 0) (.int .i64 0) (.int .i64 0) (.int .i64 0) (.slice none 0 0) (.int .i64 0)
    have O1 := only_set6 w2 (w.heap.size + 1) (.int .i64 0) (.int .i64 0) (.int .i64 0) (.int .i64 0) (.slice none 0 0) (.int .i64 0)
    have E2a := E2.block (O1.block _ E2.hi (by omega)) O1.size
    have HN := E2a.put (.int .i64 0) (.int .i64 0) (.slice none 0 0)
    have O2 := only_set3 (set6 w2 (w.heap.size + 1) (.int .i64 0) (.int .i64 0) (.int .i64 0) (.int .i64 0) (.slice none 0 0) (.int .i64 0)) (w.heap.size + 1 + 1) (.int .i64 0) (.int .i64 0) (.slice none 0 0)
    have FN := FN0.block (O2.block _ FN0.hi (by omega)) O2.size
    have BS : Bs (fun k => k = w.heap.size + 1 ∨ k = w.heap.size + 1 + 1) w2 (set3 (set6 w2 (w.heap.size + 1) (.int .i64 0) (.int .i64 0) (.int .i64 0) (.int .i64 0) (.slice none 0 0) (.int .i64 0)) (w.heap.size + 1 + 1) (.int .i64 0) (.int .i64 0) (.slice none 0 0)) := (Bs.only O1 (Or.inl rfl)).trans (Bs.only O2 (Or.inr rfl))
    have BN : Below w.heap.size w (set3 (set6 w2 (w.heap.size + 1) (.int .i64 0) (.int .i64 0) (.int .i64 0) (.int .i64 0) (.slice none 0 0) (.int .i64 0)) (w.heap.size + 1 + 1) (.int .i64 0) (.int .i64 0) (.slice none 0 0)) := (HBW.out.trans (B2.mono HBW.out.size)).trans (BS.below _ (fun k h => by rcases h with h | h <;> omega) (by have := E1.hi; omega))

    clear O1 O2 E2a FN0 q0 q1 q2 q3 q4 q5 qf t0 t1 t2 tf E0 E1 E2 hG HD HBW B2 HQW BS
    show bodyPost _ _ _ _ _ (set3 (set6 w2 (w.heap.size + 1) (.int .i64 0) (.int .i64 0) (.int .i64 0) (.int .i64 0) (.slice none 0 0) (.int .i64 0)) (w.heap.size + 1 + 1) (.int .i64 0) (.int .i64 0) (.slice none 0 0))
    generalize (set3 (set6 w2 (w.heap.size + 1) (.int .i64 0) (.int .i64 0) (.int .i64 0) (.int .i64 0) (.slice none 0 0) (.int .i64 0)) (w.heap.size + 1 + 1) (.int .i64 0) (.int .i64 0) (.slice none 0 0)) = V at FN HN BN  ⊢
    have r0 := FN.c0
    have r1 := FN.c1
    have r2 := FN.c2
    have r3 := FN.c3
    have r4 := FN.c4
    have r5 := FN.c5
    have sh0 := HN.c0
    have sh1 := HN.c1
    have sh2 := HN.c2
    exact bodyPost_ret (v := .tuple #[.agg #[.int .i64 0, .int .i64 0, .int .i64 0, .int .i64 0, .slice none 0 0, .int .i64 0], .agg #[.int .i64 0, .int .i64 0, .slice none 0 0], .bool false]) (by simp [results, Try.results35, go_sem, r0, r1, r2, r3, r4, r5, sh0, sh1, sh2]) rfl ⟨rfl, BN⟩
  rw [hg, Bool.true_and] at hb
  rw [hg] at hG
  clear hg
  have HAC : Hid (∀ w', Below w.heap.size w w' → Calls Try.prog 43 #[.slice pa ls.length pc] w' fun e w'' => e = .returned (.bool false) ∧ Below w'.heap.size w' w'') := fun w' b => by have h := paccs ls _ w' (HQW.out w' b) hls; rwa [hb] at h
  clear hb
  subst hW
  go_enter Try.func35, Try.ntmps35
  go_wp2_with (first | (go_at_call 31; refine hG.mono ?_; rintro e w2 ⟨rfl, B2⟩; (obtain ⟨E0, E1, E2⟩ := HD.out w2 B2); (have q0 := E1.c0); (have q1 := E1.c1); (have q2 := E1.c2); (have q3 := E1.c3); (have q4 := E1.c4); (have q5 := E1.c5); (have qf := E1.f); (have t0 := E2.c0); (have t1 := E2.c1); (have t2 := E2.c2); (have tf := E2.f)) | (go_at_call 43; refine (HAC.out w2 (HBW.out.trans (B2.mono HBW.out.size))).mono ?_; rintro e w3 ⟨rfl, B3⟩; (have B23 := B2.trans (B3.mono B2.size)); (obtain ⟨I0, I1, I2⟩ := HD.out w3 B23); (have x0 := I1.c0); (have x1 := I1.c1); (have x2 := I1.c2); (have x3 := I1.c3); (have x4 := I1.c4); (have x5 := I1.c5); (have xf := I1.f); (have z0 := I2.c0); (have z1 := I2.c1); (have z2 := I2.c2); (have zf := I2.f)))
  have FN0 := I1.put (.int .i64 0) (.int .i64 0) (.int .i64 0) (.int .i64 0) (.slice none 0 0) (.int .i64 0)
  have O1 := only_set6 w3 (w.heap.size + 1) (.int .i64 0) (.int .i64 0) (.int .i64 0) (.int .i64 0) (.slice none 0 0) (.int .i64 0)
  have E2a := I2.block (O1.block _ I2.hi (by omega)) O1.size
  have HN := E2a.put (.int .i64 0) (.int .i64 0) (.slice none 0 0)
  have O2 := only_set3 (set6 w3 (w.heap.size + 1) (.int .i64 0) (.int .i64 0) (.int .i64 0) (.int .i64 0) (.slice none 0 0) (.int .i64 0)) (w.heap.size + 1 + 1) (.int .i64 0) (.int .i64 0) (.slice none 0 0)
  have FN := FN0.block (O2.block _ FN0.hi (by omega)) O2.size
  have BS : Bs (fun k => k = w.heap.size + 1 ∨ k = w.heap.size + 1 + 1) w3 (set3 (set6 w3 (w.heap.size + 1) (.int .i64 0) (.int .i64 0) (.int .i64 0) (.int .i64 0) (.slice none 0 0) (.int .i64 0)) (w.heap.size + 1 + 1) (.int .i64 0) (.int .i64 0) (.slice none 0 0)) := (Bs.only O1 (Or.inl rfl)).trans (Bs.only O2 (Or.inr rfl))
  have BN : Below w.heap.size w (set3 (set6 w3 (w.heap.size + 1) (.int .i64 0) (.int .i64 0) (.int .i64 0) (.int .i64 0) (.slice none 0 0) (.int .i64 0)) (w.heap.size + 1 + 1) (.int .i64 0) (.int .i64 0) (.slice none 0 0)) := (HBW.out.trans (B23.mono HBW.out.size)).trans (BS.below _ (fun k h => by rcases h with h | h <;> omega) (by have := I1.hi; omega))

  clear O1 O2 E2a FN0 q0 q1 q2 q3 q4 q5 qf t0 t1 t2 tf x0 x1 x2 x3 x4 x5 xf z0 z1 z2 zf E0 E1 E2 I0 I1 I2 hG HD HBW B2 B3 B23 HQW HAC BS
  show bodyPost _ _ _ _ _ (set3 (set6 w3 (w.heap.size + 1) (.int .i64 0) (.int .i64 0) (.int .i64 0) (.int .i64 0) (.slice none 0 0) (.int .i64 0)) (w.heap.size + 1 + 1) (.int .i64 0) (.int .i64 0) (.slice none 0 0))
  generalize (set3 (set6 w3 (w.heap.size + 1) (.int .i64 0) (.int .i64 0) (.int .i64 0) (.int .i64 0) (.slice none 0 0) (.int .i64 0)) (w.heap.size + 1 + 1) (.int .i64 0) (.int .i64 0) (.slice none 0 0)) = V at FN HN BN  ⊢
  have r0 := FN.c0
  have r1 := FN.c1
  have r2 := FN.c2
  have r3 := FN.c3
  have r4 := FN.c4
  have r5 := FN.c5
  have sh0 := HN.c0
  have sh1 := HN.c1
  have sh2 := HN.c2
  exact bodyPost_ret (v := .tuple #[.agg #[.int .i64 0, .int .i64 0, .int .i64 0, .int .i64 0, .slice none 0 0, .int .i64 0], .agg #[.int .i64 0, .int .i64 0, .slice none 0 0], .bool false]) (by simp [results, Try.results35, go_sem, r0, r1, r2, r3, r4, r5, sh0, sh1, sh2]) rfl ⟨rfl, BN⟩
set_option maxRecDepth 100000 in
set_option maxHeartbeats 2000000 in
theorem mca_bad (s y l p c : Int) (v pv : Value) (n : Nat) (f : Nat → List Int) (ls : List Int) (w : World) (R : ARowsC w v n f) (Q : ARow w pv ls) (hn : n ≤ 1048576) (hfl : ∀ x, x < n → (f x).length ≤ 1048576) (hls : ls.length ≤ 1048576) (hb : (goodB s y l p n f c && accB ls) = false) : Calls Try.prog 34 #[.agg #[.int .i64 s, .int .i64 y, .int .i64 l, .int .i64 p, v, .int .i64 c], pv] w fun e w' => e = .returned (.tuple #[.agg #[.int .i64 0, .int .i64 0, .int .i64 0, .int .i64 0, .slice none 0 0, .int .i64 0], .agg #[.int .i64 0, .int .i64 0, .slice none 0 0], .bool false]) ∧ Below w.heap.size w w' := by
  obtain ⟨ad, cap, hv, hR0⟩ := id R
  subst hv
  obtain ⟨pa, pc, hv, _⟩ := id Q
  subst hv
  have hR := R
  clear R hR0
  obtain ⟨W, hW⟩ : ∃ W, W = ((w.alloc (.cells #[.int .i64 s, .int .i64 y, .int .i64 l, .int .i64 p, .slice ad n cap, .int .i64 c] 42)).alloc (.cells #[.int .i64 0, .int .i64 0, .int .i64 0, .int .i64 0, .slice none 0 0, .int .i64 0] 42)).alloc (.cells #[.int .i64 0, .int .i64 0, .slice none 0 0] 57) := ⟨_, rfl⟩
  have BW : Below w.heap.size w W := by rw [hW]; exact (((Below.refl _ _).alloc (Nat.le_refl _) _).alloc (by rw [World.size_alloc]; omega) _).alloc (by rw [World.size_alloc, World.size_alloc]; omega) _
  have D0 : C6 W w.heap.size (.int .i64 s) (.int .i64 y) (.int .i64 l) (.int .i64 p) (.slice ad n cap) (.int .i64 c) := by rw [hW]; exact ((C6.new _ _ _ _ _ _ _ _).next alloc_b).next alloc_b
  have D1 : C6 W (w.heap.size + 1) (.int .i64 0) (.int .i64 0) (.int .i64 0) (.int .i64 0) (.slice none 0 0) (.int .i64 0) := by
    rw [hW]
    have h := (C6.new (w.alloc (.cells #[.int .i64 s, .int .i64 y, .int .i64 l, .int .i64 p, .slice ad n cap, .int .i64 c] 42)) 42 (.int .i64 0) (.int .i64 0) (.int .i64 0) (.int .i64 0) (.slice none 0 0) (.int .i64 0)).next (alloc_b (o := .cells #[.int .i64 0, .int .i64 0, .slice none 0 0] 57))
    rwa [World.size_alloc] at h
  have D2 : C3 W (w.heap.size + 1 + 1) (.int .i64 0) (.int .i64 0) (.slice none 0 0) := by
    rw [hW]
    have h := C3.new ((w.alloc (.cells #[.int .i64 s, .int .i64 y, .int .i64 l, .int .i64 p, .slice ad n cap, .int .i64 c] 42)).alloc (.cells #[.int .i64 0, .int .i64 0, .int .i64 0, .int .i64 0, .slice none 0 0, .int .i64 0] 42)) 57 (.int .i64 0) (.int .i64 0) (.slice none 0 0)
    rwa [World.size_alloc, World.size_alloc] at h
  have HD : Hid (∀ w', Below W.heap.size W w' → C6 w' w.heap.size (.int .i64 s) (.int .i64 y) (.int .i64 l) (.int .i64 p) (.slice ad n cap) (.int .i64 c) ∧ C6 w' (w.heap.size + 1) (.int .i64 0) (.int .i64 0) (.int .i64 0) (.int .i64 0) (.slice none 0 0) (.int .i64 0) ∧ C3 w' (w.heap.size + 1 + 1) (.int .i64 0) (.int .i64 0) (.slice none 0 0)) := fun w' b => ⟨D0.next b, D1.next b, D2.next b⟩
  have HBW := Hid.mk BW
  have HRW : Hid (∀ w', Below w.heap.size w w' → ARowsC w' (.slice ad n cap) n f) := fun w' b => hR.next b
  have HQW : Hid (∀ w', Below w.heap.size w w' → ARow w' (.slice pa ls.length pc) ls) := fun w' b => Q.next b
  have hG := mgood s y l p (.slice ad n cap) c n f W (HRW.out W BW) hn hfl
  clear D0 D1 D2 BW hR HRW hn hfl Q
  cases hg : goodB s y l p n f c
  case false =>
    rw [hg] at hG
    clear hb hg
    subst hW
    go_enter Try.func34, Try.ntmps34
    go_wp2_with (first | (go_at_call 29; refine hG.mono ?_; rintro e w2 ⟨rfl, B2⟩; (obtain ⟨E0, E1, E2⟩ := HD.out w2 B2); (have q0 := E1.c0); (have q1 := E1.c1); (have q2 := E1.c2); (have q3 := E1.c3); (have q4 := E1.c4); (have q5 := E1.c5); (have qf := E1.f); (have t0 := E2.c0); (have t1 := E2.c1); (have t2 := E2.c2); (have tf := E2.f)))
    have FN0 := E1.put (.int .i64 0) (.int .i64 0) (.int .i64 0) (.int .i64 0) (.slice none 0 0) (.int .i64 0)
    have O1 := only_set6 w2 (w.heap.size + 1) (.int .i64 0) (.int .i64 0) (.int .i64 0) (.int .i64 0) (.slice none 0 0) (.int .i64 0)
    have E2a := E2.block (O1.block _ E2.hi (by omega)) O1.size
    have HN := E2a.put (.int .i64 0) (.int .i64 0) (.slice none 0 0)
    have O2 := only_set3 (set6 w2 (w.heap.size + 1) (.int .i64 0) (.int .i64 0) (.int .i64 0) (.int .i64 0) (.slice none 0 0) (.int .i64 0)) (w.heap.size + 1 + 1) (.int .i64 0) (.int .i64 0) (.slice none 0 0)
    have FN := FN0.block (O2.block _ FN0.hi (by omega)) O2.size
    have BS : Bs (fun k => k = w.heap.size + 1 ∨ k = w.heap.size + 1 + 1) w2 (set3 (set6 w2 (w.heap.size + 1) (.int .i64 0) (.int .i64 0) (.int .i64 0) (.int .i64 0) (.slice none 0 0) (.int .i64 0)) (w.heap.size + 1 + 1) (.int .i64 0) (.int .i64 0) (.slice none 0 0)) := (Bs.only O1 (Or.inl rfl)).trans (Bs.only O2 (Or.inr rfl))
    have BN : Below w.heap.size w (set3 (set6 w2 (w.heap.size + 1) (.int .i64 0) (.int .i64 0) (.int .i64 0) (.int .i64 0) (.slice none 0 0) (.int .i64 0)) (w.heap.size + 1 + 1) (.int .i64 0) (.int .i64 0) (.slice none 0 0)) := (HBW.out.trans (B2.mono HBW.out.size)).trans (BS.below _ (fun k h => by rcases h with h | h <;> omega) (by have := E1.hi; omega))

    clear O1 O2 E2a FN0 q0 q1 q2 q3 q4 q5 qf t0 t1 t2 tf E0 E1 E2 hG HD HBW B2 HQW BS
    show bodyPost _ _ _ _ _ (set3 (set6 w2 (w.heap.size + 1) (.int .i64 0) (.int .i64 0) (.int .i64 0) (.int .i64 0) (.slice none 0 0) (.int .i64 0)) (w.heap.size + 1 + 1) (.int .i64 0) (.int .i64 0) (.slice none 0 0))
    generalize (set3 (set6 w2 (w.heap.size + 1) (.int .i64 0) (.int .i64 0) (.int .i64 0) (.int .i64 0) (.slice none 0 0) (.int .i64 0)) (w.heap.size + 1 + 1) (.int .i64 0) (.int .i64 0) (.slice none 0 0)) = V at FN HN BN  ⊢
    have r0 := FN.c0
    have r1 := FN.c1
    have r2 := FN.c2
    have r3 := FN.c3
    have r4 := FN.c4
    have r5 := FN.c5
    have sh0 := HN.c0
    have sh1 := HN.c1
    have sh2 := HN.c2
    exact bodyPost_ret (v := .tuple #[.agg #[.int .i64 0, .int .i64 0, .int .i64 0, .int .i64 0, .slice none 0 0, .int .i64 0], .agg #[.int .i64 0, .int .i64 0, .slice none 0 0], .bool false]) (by simp [results, Try.results34, go_sem, r0, r1, r2, r3, r4, r5, sh0, sh1, sh2]) rfl ⟨rfl, BN⟩
  rw [hg, Bool.true_and] at hb
  rw [hg] at hG
  clear hg
  have HAC : Hid (∀ w', Below w.heap.size w w' → Calls Try.prog 46 #[.slice pa ls.length pc] w' fun e w'' => e = .returned (.bool false) ∧ w'' = w') := fun w' b => by have h := mplaces ls _ w' (HQW.out w' b); rwa [hb] at h
  clear hb
  subst hW
  go_enter Try.func34, Try.ntmps34
  go_wp2_with (first | (go_at_call 29; refine hG.mono ?_; rintro e w2 ⟨rfl, B2⟩; (obtain ⟨E0, E1, E2⟩ := HD.out w2 B2); (have q0 := E1.c0); (have q1 := E1.c1); (have q2 := E1.c2); (have q3 := E1.c3); (have q4 := E1.c4); (have q5 := E1.c5); (have qf := E1.f); (have t0 := E2.c0); (have t1 := E2.c1); (have t2 := E2.c2); (have tf := E2.f)) | (go_at_call 46; refine (HAC.out w2 (HBW.out.trans (B2.mono HBW.out.size))).mono ?_; rintro e w3 ⟨rfl, hw3⟩; subst w3))
  have FN0 := E1.put (.int .i64 0) (.int .i64 0) (.int .i64 0) (.int .i64 0) (.slice none 0 0) (.int .i64 0)
  have O1 := only_set6 w2 (w.heap.size + 1) (.int .i64 0) (.int .i64 0) (.int .i64 0) (.int .i64 0) (.slice none 0 0) (.int .i64 0)
  have E2a := E2.block (O1.block _ E2.hi (by omega)) O1.size
  have HN := E2a.put (.int .i64 0) (.int .i64 0) (.slice none 0 0)
  have O2 := only_set3 (set6 w2 (w.heap.size + 1) (.int .i64 0) (.int .i64 0) (.int .i64 0) (.int .i64 0) (.slice none 0 0) (.int .i64 0)) (w.heap.size + 1 + 1) (.int .i64 0) (.int .i64 0) (.slice none 0 0)
  have FN := FN0.block (O2.block _ FN0.hi (by omega)) O2.size
  have BS : Bs (fun k => k = w.heap.size + 1 ∨ k = w.heap.size + 1 + 1) w2 (set3 (set6 w2 (w.heap.size + 1) (.int .i64 0) (.int .i64 0) (.int .i64 0) (.int .i64 0) (.slice none 0 0) (.int .i64 0)) (w.heap.size + 1 + 1) (.int .i64 0) (.int .i64 0) (.slice none 0 0)) := (Bs.only O1 (Or.inl rfl)).trans (Bs.only O2 (Or.inr rfl))
  have BN : Below w.heap.size w (set3 (set6 w2 (w.heap.size + 1) (.int .i64 0) (.int .i64 0) (.int .i64 0) (.int .i64 0) (.slice none 0 0) (.int .i64 0)) (w.heap.size + 1 + 1) (.int .i64 0) (.int .i64 0) (.slice none 0 0)) := (HBW.out.trans (B2.mono HBW.out.size)).trans (BS.below _ (fun k h => by rcases h with h | h <;> omega) (by have := E1.hi; omega))

  clear O1 O2 E2a FN0 q0 q1 q2 q3 q4 q5 qf t0 t1 t2 tf E0 E1 E2 hG HD HBW B2 HQW HAC BS
  show bodyPost _ _ _ _ _ (set3 (set6 w2 (w.heap.size + 1) (.int .i64 0) (.int .i64 0) (.int .i64 0) (.int .i64 0) (.slice none 0 0) (.int .i64 0)) (w.heap.size + 1 + 1) (.int .i64 0) (.int .i64 0) (.slice none 0 0))
  generalize (set3 (set6 w2 (w.heap.size + 1) (.int .i64 0) (.int .i64 0) (.int .i64 0) (.int .i64 0) (.slice none 0 0) (.int .i64 0)) (w.heap.size + 1 + 1) (.int .i64 0) (.int .i64 0) (.slice none 0 0)) = V at FN HN BN  ⊢
  have r0 := FN.c0
  have r1 := FN.c1
  have r2 := FN.c2
  have r3 := FN.c3
  have r4 := FN.c4
  have r5 := FN.c5
  have sh0 := HN.c0
  have sh1 := HN.c1
  have sh2 := HN.c2
  exact bodyPost_ret (v := .tuple #[.agg #[.int .i64 0, .int .i64 0, .int .i64 0, .int .i64 0, .slice none 0 0, .int .i64 0], .agg #[.int .i64 0, .int .i64 0, .slice none 0 0], .bool false]) (by simp [results, Try.results34, go_sem, r0, r1, r2, r3, r4, r5, sh0, sh1, sh2]) rfl ⟨rfl, BN⟩
set_option maxRecDepth 100000 in
set_option maxHeartbeats 2000000 in
theorem pca_ok (m y l p : Nat) (c : Int) (v pv : Value) (f : Nat → List Int) (ls : List Int) (w : World) (R : ARows w v m f) (Q : ARow w pv ls) (g : goodB (m : Int) (y : Int) (l : Int) (p : Int) m f c = true) (a : accB ls = true) : Calls Try.prog 35 #[.agg #[.int .i64 (m : Int), .int .i64 (y : Int), .int .i64 (l : Int), .int .i64 (p : Int), v, .int .i64 c], pv] w fun e w' => ∃ a k u R, e = .returned (.tuple #[.agg #[.int .i64 (m : Int), .int .i64 (y : Int), .int .i64 (l : Int), .int .i64 (p : Int), .slice a m k, .int .i64 (ca m y l p ⟨f, c⟩ ls ls.length).s.coin], .agg #[.int .i64 (ca m y l p ⟨f, c⟩ ls ls.length).h, .int .i64 (ca m y l p ⟨f, c⟩ ls ls.length).x, u], .bool true]) ∧ Ay (Rg w.heap.size w'.heap.size R) w' (.slice a m k) m (ca m y l p ⟨f, c⟩ ls ls.length).s.L ∧ Ny (Rg w.heap.size w'.heap.size (fun k => ¬ R k)) w' u (fun i => (ca m y l p ⟨f, c⟩ ls ls.length).o.getD i 0) (ca m y l p ⟨f, c⟩ ls ls.length).o.length ∧ Below w.heap.size w w' := by
  obtain ⟨hnew, _, hc, hsets⟩ := goodB_iff g
  obtain ⟨hm, hy, hl, hp⟩ := newB_iff hnew
  have m1 : 1 ≤ m := by have := (pwB_iff hm).1; omega
  have m2 : m ≤ 64 := by have := (pwB_iff hm).2; omega
  have l1 : 16 ≤ l := by have := (pwB_iff hl).1; omega
  have l2 : l ≤ 256 := by have := (pwB_iff hl).2; omega
  have ok : Cs.ok ⟨f, c⟩ m y := ⟨fun x hx => setB_P (hsets x hx), hc.1, by show c < 65536; omega⟩
  have hf8 : ∀ x, x < m → (f x).length ≤ 8 := fun x hx => by have h : (f x).length ≤ y := (ok.1 x hx).1; omega
  obtain ⟨l200, hpl⟩ := accB_at a
  have HPL := Hid.mk hpl
  have HOK : Hid (∀ k, k ≤ ls.length → (ca m y l p ⟨f, c⟩ ls k).s.ok m y ∧ 0 ≤ (ca m y l p ⟨f, c⟩ ls k).h ∧ (ca m y l p ⟨f, c⟩ ls k).h ≤ k ∧ 0 ≤ (ca m y l p ⟨f, c⟩ ls k).x ∧ (ca m y l p ⟨f, c⟩ ls k).x ≤ k ∧ (ca m y l p ⟨f, c⟩ ls k).o.length ≤ k) := ca_ok m y l p ⟨f, c⟩ ls ok (by omega) (by omega) (by omega) hpl
  have HC0 : Hid (ca m y l p ⟨f, c⟩ ls 0 = ⟨⟨f, c⟩, 0, 0, []⟩) := rfl
  have HST : Hid (∀ k, ca m y l p ⟨f, c⟩ ls (k + 1) = (ca m y l p ⟨f, c⟩ ls k).step m y l p (ls.getD k 0)) := fun _ => rfl
  obtain ⟨ad, cap, hv, hR0⟩ := id R
  subst hv
  obtain ⟨pa, pc, hv, _⟩ := id Q
  subst hv
  have hR := R
  clear R hR0
  obtain ⟨W, hW⟩ : ∃ W, W = ((w.alloc (.cells #[.int .i64 (m : Int), .int .i64 (y : Int), .int .i64 (l : Int), .int .i64 (p : Int), .slice ad m cap, .int .i64 c] 42)).alloc (.cells #[.int .i64 0, .int .i64 0, .int .i64 0, .int .i64 0, .slice none 0 0, .int .i64 0] 42)).alloc (.cells #[.int .i64 0, .int .i64 0, .slice none 0 0] 57) := ⟨_, rfl⟩
  have BW : Below w.heap.size w W := by rw [hW]; exact (((Below.refl _ _).alloc (Nat.le_refl _) _).alloc (by rw [World.size_alloc]; omega) _).alloc (by rw [World.size_alloc, World.size_alloc]; omega) _
  have D0 : C6 W w.heap.size (.int .i64 (m : Int)) (.int .i64 (y : Int)) (.int .i64 (l : Int)) (.int .i64 (p : Int)) (.slice ad m cap) (.int .i64 c) := by rw [hW]; exact ((C6.new _ _ _ _ _ _ _ _).next alloc_b).next alloc_b
  have D1 : C6 W (w.heap.size + 1) (.int .i64 0) (.int .i64 0) (.int .i64 0) (.int .i64 0) (.slice none 0 0) (.int .i64 0) := by
    rw [hW]
    have h := (C6.new (w.alloc (.cells #[.int .i64 (m : Int), .int .i64 (y : Int), .int .i64 (l : Int), .int .i64 (p : Int), .slice ad m cap, .int .i64 c] 42)) 42 (.int .i64 0) (.int .i64 0) (.int .i64 0) (.int .i64 0) (.slice none 0 0) (.int .i64 0)).next (alloc_b (o := .cells #[.int .i64 0, .int .i64 0, .slice none 0 0] 57))
    rwa [World.size_alloc] at h
  have D2 : C3 W (w.heap.size + 1 + 1) (.int .i64 0) (.int .i64 0) (.slice none 0 0) := by
    rw [hW]
    have h := C3.new ((w.alloc (.cells #[.int .i64 (m : Int), .int .i64 (y : Int), .int .i64 (l : Int), .int .i64 (p : Int), .slice ad m cap, .int .i64 c] 42)).alloc (.cells #[.int .i64 0, .int .i64 0, .int .i64 0, .int .i64 0, .slice none 0 0, .int .i64 0] 42)) 57 (.int .i64 0) (.int .i64 0) (.slice none 0 0)
    rwa [World.size_alloc, World.size_alloc] at h
  have HD : Hid (∀ w', Below W.heap.size W w' → C6 w' w.heap.size (.int .i64 (m : Int)) (.int .i64 (y : Int)) (.int .i64 (l : Int)) (.int .i64 (p : Int)) (.slice ad m cap) (.int .i64 c) ∧ C6 w' (w.heap.size + 1) (.int .i64 0) (.int .i64 0) (.int .i64 0) (.int .i64 0) (.slice none 0 0) (.int .i64 0) ∧ C3 w' (w.heap.size + 1 + 1) (.int .i64 0) (.int .i64 0) (.slice none 0 0)) := fun w' b => ⟨D0.next b, D1.next b, D2.next b⟩
  have HBW := Hid.mk BW
  have HRW : Hid (∀ w', Below w.heap.size w w' → ARows w' (.slice ad m cap) m f) := fun w' b => hR.next b
  have HQW : Hid (∀ w', Below w.heap.size w w' → ARow w' (.slice pa ls.length pc) ls) := fun w' b => Q.next b
  have hG := pgood (m : Int) (y : Int) (l : Int) (p : Int) (.slice ad m cap) c m f W (HRW.out W BW) (by omega) (fun x hx => by have := hf8 x hx; omega)
  rw [g] at hG
  have HAC : Hid (∀ w', Below w.heap.size w w' → Calls Try.prog 43 #[.slice pa ls.length pc] w' fun e w'' => e = .returned (.bool true) ∧ Below w'.heap.size w' w'') := fun w' b => by have h := paccs ls _ w' (HQW.out w' b) (by omega); rwa [a] at h
  have HLV : Hid (∀ w', Below w.heap.size w w' → Calls Try.prog 66 #[.agg #[.int .i64 (m : Int), .int .i64 (y : Int), .int .i64 (l : Int), .int .i64 (p : Int), .slice ad m cap, .int .i64 c]] w' fun e w'' => ∃ lb gm cp U, e = .returned (.pointer (some ⟨lb, 0, none⟩)) ∧ C5 w'' lb (.slice (some ⟨gm, 0, none⟩) m cp) (.int .i64 (y : Int)) (.int .i64 (l : Int)) (polV (p : Int)) (.int .i64 c) ∧ m ≤ cp ∧ Kx w'.heap.size w'' lb gm m U f ∧ Below w'.heap.size w' w'') := fun w' b => plevel _ _ _ _ _ _ m f w' (HRW.out w' b) m1 m2 hf8
  have y1 : 1 ≤ y := by omega
  have y2 : y ≤ 8 := by omega
  have p1 : 1 ≤ p := by omega
  have p2 : p ≤ 3 := by omega
  generalize ca m y l p ⟨f, c⟩ ls = CA at HOK HC0 HST ⊢
  obtain ⟨n, hn⟩ : ∃ n, ls.length = n := ⟨_, rfl⟩
  have HN0 : Hid (ls.length = n) := hn
  rw [hn] at HAC HOK HQW l200 HPL ⊢
  clear D0 D1 D2 BW hR HRW ok hsets hf8 hnew hm hl g a hpl hn Q hc
  subst hW
  go_enter Try.func35, Try.ntmps35
  go_wp2_with (first | (go_at_call 31; refine hG.mono ?_; rintro e w2 ⟨rfl, B2⟩) | (go_at_call 43; refine (HAC.out w2 (HBW.out.trans (B2.mono HBW.out.size))).mono ?_; rintro e w3 ⟨rfl, B3⟩; (have B23 := B2.trans (B3.mono B2.size)); (obtain ⟨E0, E1, E2⟩ := HD.out w3 B23); (have e0 := E0.c0); (have e1 := E0.c1); (have e2 := E0.c2); (have e3 := E0.c3); (have e4 := E0.c4); (have e5 := E0.c5); (have ef := E0.f)) | (go_at_call 66; refine (HLV.out w3 (HBW.out.trans (B23.mono HBW.out.size))).mono ?_; rintro e w4 ⟨lb, gm, cp, U0, rfl, C4, hcp, K4, B4⟩))
  have HL0 : Hid (Lw w3.heap.size lb gm m w4.heap.size (w4.alloc (.cells #[.int .i64 0, .int .i64 0, .slice none 0 0] 57)) U0 (.slice none 0 0) (CA 0).s.L (CA 0).o (CA 0).h (CA 0).x) := by
    rw [HC0.out]
    exact ⟨K4.next alloc_b, C3.new _ _ _ _ _, Ri.nil _ _ (by rw [World.size_alloc]; have := B4.size; omega), fun x hx e => by have := (K4.lt x hx _ e).2; omega, fun q e => (by cases e), by have := K4.hh; omega, by have := K4.hg; omega, B4.size⟩
  have HC50 : Hid (C5 (w4.alloc (.cells #[.int .i64 0, .int .i64 0, .slice none 0 0] 57)) lb (.slice (some ⟨gm, 0, none⟩) m cp) (.int .i64 (y : Int)) (.int .i64 (l : Int)) (polV (p : Int)) (.int .i64 (CA 0).s.coin)) := by rw [HC0.out]; exact C4.next alloc_b
  have HB50 : Hid (Below w3.heap.size w3 (w4.alloc (.cells #[.int .i64 0, .int .i64 0, .slice none 0 0] 57))) := B4.alloc B4.size _
  have HB03 : Hid (Below w.heap.size w w3) := HBW.out.trans (B23.mono HBW.out.size)
  have HHB : Hid (w.heap.size + 1 + 1 < w4.heap.size) := by have := E2.hi; have := B4.size; show _ < _; omega
  have HSZ : Hid (w.heap.size + 1 + 1 < w3.heap.size) := E2.hi
  have HE3 : Hid (∀ w', Below w3.heap.size w3 w' → C6 w' w.heap.size (.int .i64 (m : Int)) (.int .i64 (y : Int)) (.int .i64 (l : Int)) (.int .i64 (p : Int)) (.slice ad m cap) (.int .i64 c) ∧ C6 w' (w.heap.size + 1) (.int .i64 0) (.int .i64 0) (.int .i64 0) (.int .i64 0) (.slice none 0 0) (.int .i64 0) ∧ C3 w' (w.heap.size + 1 + 1) (.int .i64 0) (.int .i64 0) (.slice none 0 0)) := fun w' b => ⟨E0.next b, E1.next b, E2.next b⟩
  clear E0 E1 E2 e0 e1 e2 e3 e4 e5 ef B2 B3 B23 B4 K4 C4 hG HLV HAC HD HBW
  generalize w4.alloc (.cells #[.int .i64 0, .int .i64 0, .slice none 0 0] 57) = WS at HL0 HC50 HB50 ⊢
  generalize w4.heap.size = hb at HL0 HHB ⊢
  go_loopw [27] (fun ii wr => ∃ (k : Nat) (U : Nat → Value) (u : Value), k ≤ n ∧ ii = .int .i64 k ∧ Hid (Lw w3.heap.size lb gm m hb wr U u (CA k).s.L (CA k).o (CA k).h (CA k).x) ∧ Hid (C5 wr lb (.slice (some ⟨gm, 0, none⟩) m cp) (.int .i64 (y : Int)) (.int .i64 (l : Int)) (polV (p : Int)) (.int .i64 (CA k).s.coin)) ∧ Hid (Below w3.heap.size w3 wr)) (fun ii _ => n - (intOf ii).toNat)
  case atStart => exact ⟨0, U0, _, Nat.zero_le _, rfl, HL0, HC50, HB50⟩
  case round =>
   obtain ⟨k, U, u, hk, rfl, HL, HC, HBr⟩ := hrel
   by_cases hkn : k < n
   · have i1 : (k : Int) < (n : Int) := by omega
     have i0 : (0 : Int) ≤ (k : Int) := by omega
     have BWr : Below w.heap.size w wr := HB03.out.trans (HBr.out.mono HB03.out.size)
     obtain ⟨pa2, pc2, e1, e2⟩ := HQW.out wr BWr
     injection e1 with e1 e3 e4
     subst e1; subst e4
     obtain ⟨gq, oq, hpa, hcell⟩ := e2 k (by rw [HN0.out]; exact hkn)
     subst hpa
     have hpk := HPL.out k hkn
     have hok := HOK.out k hk
     have hst := HST.out k
     clear e2 e3
     have h67 := pread w3.heap.size lb gm m y l p cp U (CA k).s.L (CA k).s.coin (ls.getD k 0) wr HC.out HL.out.K hok.1 m1 m2 y1 y2 l1 l2 p1 p2 hpk.1 hpk.2 hcp
     have hs1 : (CA (k + 1)).s = Cs.rd ⟨(CA k).s.L, (CA k).s.coin⟩ m y l p (ls.getD k 0) := by rw [hst]; rfl
     have hs2 : (CA (k + 1)).h = if Cs.hit ⟨(CA k).s.L, (CA k).s.coin⟩ m y l p (ls.getD k 0) = true then (CA k).h + 1 else (CA k).h := by rw [hst]; rfl
     have hs3 : (CA (k + 1)).x = if Cs.hit ⟨(CA k).s.L, (CA k).s.coin⟩ m y l p (ls.getD k 0) = true then (CA k).x else (CA k).x + 1 := by rw [hst]; rfl
     have hs4 : (CA (k + 1)).o = if Cs.out ⟨(CA k).s.L, (CA k).s.coin⟩ m y l p (ls.getD k 0) = -1 then (CA k).o else (CA k).o ++ [Cs.out ⟨(CA k).s.L, (CA k).s.coin⟩ m y l p (ls.getD k 0)] := by rw [hst]; rfl
     rw [← hs1] at h67
     generalize Cs.hit ⟨(CA k).s.L, (CA k).s.coin⟩ m y l p (ls.getD k 0) = HI at h67 hs2 hs3
     generalize Cs.out ⟨(CA k).s.L, (CA k).s.coin⟩ m y l p (ls.getD k 0) = OU at h67 hs4
     have H69 : Hid (∀ (w8 : World) (U8 : Nat → Value), Lw w3.heap.size lb gm m hb w8 U8 u (CA (k + 1)).s.L (CA k).o (CA k).h (CA k).x → Calls Try.prog 69 #[.pointer (some ⟨hb, 0, none⟩), .bool HI, .int .i64 OU] w8 fun e w9 => e = .returned (.tuple #[]) ∧ ∃ u', Lw w3.heap.size lb gm m hb w9 U8 u' (CA (k + 1)).s.L (CA (k + 1)).o (CA (k + 1)).h (CA (k + 1)).x ∧ w9.heap[lb]? = w8.heap[lb]? ∧ Below w3.heap.size w8 w9) := fun w8 U8 V8 => by
       have h := pcount w3.heap.size hb (CA k).h (CA k).x OU u (CA k).o HI w8 V8.C V8.R (fun e => (V8.ou hb e).2.2.1 rfl) hok.2.1 (by have := hok.2.2.1; omega) hok.2.2.2.1 (by have := hok.2.2.2.2.1; omega) (by have := hok.2.2.2.2.2; omega)
       refine h.mono ?_
       rintro e w9 ⟨rfl, u9, C9, R9, hne, c9⟩
       rw [← hs2, ← hs3] at C9
       rw [← hs4] at R9
       have V9 := V8.fin c9 C9 R9 hne
       exact ⟨rfl, u9, V9.1, V9.2.1, V9.2.2⟩
     have HX := Hid.mk h67
     clear h67 hs1 hs2 hs3 hs4 hst hok
     generalize ls.getD k 0 = pl at HX hcell hpk
     go_wp2_with (first | (go_at_call 67; refine HX.out.mono ?_; rintro e w8 ⟨rfl, C8, U8, K8, F8⟩) | (go_at_call 69; refine (H69.out w8 U8 (HL.out.mid K8 F8)).mono ?_; rintro e w9 ⟨rfl, u9, L9, b9, B9⟩))
     go_roundw
     case rel => exact ⟨k + 1, U8, u9, by omega, by go_num, L9, C8.block b9 B9.size, (HBr.out.trans (F8.below HL.out.K)).trans B9⟩
     case measure => simp [intOf]; omega
   · obtain rfl : n = k := by omega
     have i1 : ¬ (n : Int) < (n : Int) := by omega
     have hLv := HL.out
     obtain ⟨ua, uc, hu, _⟩ := hLv.R.arow
     subst hu
     go_wp2
     generalize hWW : World.drew _ = WX
     have B0 : Below wr.heap.size wr WX := by rw [← hWW]; exact below_drew (Below.refl _ _)
     have LX := hLv.next B0
     have CX := HC.out.next B0
     have B3X : Below w3.heap.size w3 WX := HBr.out.trans (B0.mono HBr.out.size)
     have GX := HE3.out WX B3X
     have BWX : Below w.heap.size w WX := HB03.out.trans (B3X.mono HB03.out.size)
     clear hLv HL HC HBr B0 B3X HE3 HL0 HC50 HB50 HB03 HQW HPL HOK HST
     refine wp_region_held_drew (S := fun v => C6 v w.heap.size (.int .i64 (m : Int)) (.int .i64 (y : Int)) (.int .i64 (l : Int)) (.int .i64 (p : Int)) (.slice ad m cap) (.int .i64 c) ∧ C3 v hb (.int .i64 (CA n).h) (.int .i64 (CA n).x) (.slice ua (CA n).o.length uc)) (by kernel_rfl) (by rw [hWW]; exact ⟨GX.1, LX.C⟩) (fun hH => ?_)
     rw [hWW] at hH ⊢
     clear hWW
     refine wpAnyH_take (i := 0) (oi := { dst := some 41, op := Op.move (Operand.tmp 7), type := 83, pos := "l15_memory.go:157", after := #[], guard := none }) (v := .pointer (some ⟨lb, 0, none⟩)) rfl (by kernel_rfl) (by kernel_rfl) (by kernel_rfl) (fun _ _ _ h => h) (Or.inl ⟨by rfl, fun w0 hSw => by (go_simp)⟩) hH ?_
     simp only [Act.put, List.setIfInBounds_toArray, List.set_cons_zero, List.set_cons_succ]
     refine wpAnyH_take (i := 1) (oi := { dst := some 42, op := Op.load 42 (Operand.tmp 2), type := 42, pos := "l15_memory.go:157", after := #[], guard := none }) (v := .agg #[.int .i64 (m : Int), .int .i64 (y : Int), .int .i64 (l : Int), .int .i64 (p : Int), .slice ad m cap, .int .i64 c]) rfl (by kernel_rfl) (by kernel_rfl) (by kernel_rfl) (fun _ _ _ h => h) (Or.inl ⟨by rfl, fun w0 hSw => by (have e0 := hSw.1.c0; have e1 := hSw.1.c1; have e2 := hSw.1.c2; have e3 := hSw.1.c3; have e4 := hSw.1.c4; have e5 := hSw.1.c5; go_simp)⟩) hH ?_
     simp only [Act.put, List.setIfInBounds_toArray, List.set_cons_zero, List.set_cons_succ]
     refine wpAnyH_take (i := 3) (oi := { dst := some 44, op := Op.load 57 (Operand.tmp 8), type := 57, pos := "l15_memory.go:157", after := #[{ on := 4, ground := Ground.gcOnly Departure.lateStores }], guard := none }) (v := .agg #[.int .i64 (CA n).h, .int .i64 (CA n).x, .slice ua (CA n).o.length uc]) rfl (by kernel_rfl) (by kernel_rfl) (by kernel_rfl) (fun _ _ _ h => h) (Or.inl ⟨by rfl, fun w0 hSw => by (have e0 := hSw.2.c0; have e1 := hSw.2.c1; have e2 := hSw.2.c2; go_simp)⟩) hH ?_
     simp only [Act.put, List.setIfInBounds_toArray, List.set_cons_zero, List.set_cons_succ]
     refine wpAnyH_ready (rs := [2]) (by kernel_rfl) (by simp) ?_
     refine (AllReadyH.cons (o := { dst := some 43, op := Op.call { callee := Callee.value (Operand.func 68), args := #[Operand.tmp 41, Operand.tmp 42], argTypes := #[83, 42] }, type := 42, pos := "l15_memory.go:157", after := #[{ on := 0, ground := Ground.data }, { on := 1, ground := Ground.data }], guard := none }) rfl (fun K hK => ?_) AllReadyH.nil)
     refine step_callC 68 #[.pointer (some ⟨lb, 0, none⟩), .agg #[.int .i64 (m : Int), .int .i64 (y : Int), .int .i64 (l : Int), .int .i64 (p : Int), .slice ad m cap, .int .i64 c]] (fun z v w' => z = .agg #[.int .i64 (m : Int), .int .i64 (y : Int), .int .i64 (l : Int), .int .i64 (p : Int), .slice (some ⟨gm, 0, none⟩) m cp, .int .i64 (CA n).s.coin] ∧ Below v.heap.size v w') (by rfl) (by go_simp) ((pleft _ _ _ _ _ _ _ _ _ _ _ _ _ _ _ _ WX CX).mono fun e w' ⟨h1, h2⟩ => ⟨_, h1, rfl, h2⟩) ?_
     rintro z5 w5 ⟨rfl, B5⟩
     simp only [Act.put, List.setIfInBounds_toArray, List.set_cons_zero, List.set_cons_succ]
     refine hK.out _ _ ⟨GX.1.next B5, LX.C.next B5⟩ (fun hH' => ?_)
     clear hK K
     replace hH := hH'
     clear hH'
     have I1 := GX.2.1.next B5
     have I2 := GX.2.2.next B5
     have I0 := GX.1.next B5
     have L5 := LX.next B5
     have S1 := only_set6 w5 (w.heap.size + 1) (.int .i64 (m : Int)) (.int .i64 (y : Int)) (.int .i64 (l : Int)) (.int .i64 (p : Int)) (.slice (some ⟨gm, 0, none⟩) m cp) (.int .i64 (CA n).s.coin)
     have I2a := I2.block (S1.block _ I2.hi (by omega)) S1.size
     have FN0 := I1.put (.int .i64 (m : Int)) (.int .i64 (y : Int)) (.int .i64 (l : Int)) (.int .i64 (p : Int)) (.slice (some ⟨gm, 0, none⟩) m cp) (.int .i64 (CA n).s.coin)
     refine wpAnyH_ready (rs := [4]) (by kernel_rfl) (by simp) ?_
     refine (AllReadyH.cons (o := { dst := none, op := Op.store 42 (Operand.tmp 4) (Operand.tmp 43), type := 0, pos := "l15_memory.go:157", after := #[{ on := 2, ground := Ground.data }, { on := 2, ground := Ground.chain }, { on := 0, ground := Ground.phase }, { on := 1, ground := Ground.phase }, { on := 2, ground := Ground.phase }, { on := 3, ground := Ground.textOnly Departure.lateStores }], guard := none }) rfl (fun K hK => ?_) AllReadyH.nil)
     refine step_skip (set6 w5 (w.heap.size + 1) (.int .i64 (m : Int)) (.int .i64 (y : Int)) (.int .i64 (l : Int)) (.int .i64 (p : Int)) (.slice (some ⟨gm, 0, none⟩) m cp) (.int .i64 (CA n).s.coin)) (by rfl) (by unfold set6; have q0 := I1.c0; have q1 := I1.c1; have q2 := I1.c2; have q3 := I1.c3; have q4 := I1.c4; have q5 := I1.c5; have qf := I1.f; go_simp) ?_
     generalize (set6 w5 (w.heap.size + 1) (.int .i64 (m : Int)) (.int .i64 (y : Int)) (.int .i64 (l : Int)) (.int .i64 (p : Int)) (.slice (some ⟨gm, 0, none⟩) m cp) (.int .i64 (CA n).s.coin)) = V1 at I2a S1 FN0 ⊢
     have S2 := only_set3 V1 (w.heap.size + 1 + 1) (.int .i64 (CA n).h) (.int .i64 (CA n).x) (.slice ua (CA n).o.length uc)
     have HN := I2a.put (.int .i64 (CA n).h) (.int .i64 (CA n).x) (.slice ua (CA n).o.length uc)
     have J0 := I0.block (S1.block _ I0.hi (by omega)) S1.size
     have JH := L5.C.block (S1.block _ L5.C.hi (by have := HHB.out; omega)) S1.size
     refine hK.out _ _ ⟨J0, JH⟩ (fun hH' => ?_)
     clear hK K
     replace hH := hH'
     clear hH' 
     refine wpAnyH_ready (rs := [5]) (by kernel_rfl) (by simp) ?_
     refine (AllReadyH.cons (o := { dst := none, op := Op.store 57 (Operand.tmp 5) (Operand.tmp 44), type := 0, pos := "l15_memory.go:157", after := #[{ on := 3, ground := Ground.data }, { on := 4, ground := Ground.chain }, { on := 0, ground := Ground.phase }, { on := 1, ground := Ground.phase }, { on := 2, ground := Ground.phase }, { on := 3, ground := Ground.phase }, { on := 4, ground := Ground.phase }], guard := none }) rfl (fun K hK => ?_) AllReadyH.nil)
     refine step_skip (set3 V1 (w.heap.size + 1 + 1) (.int .i64 (CA n).h) (.int .i64 (CA n).x) (.slice ua (CA n).o.length uc)) (by rfl) (by unfold set3; have q0 := I2a.c0; have q1 := I2a.c1; have q2 := I2a.c2; have qf := I2a.f; go_simp) ?_
     generalize set3 V1 (w.heap.size + 1 + 1) (.int .i64 (CA n).h) (.int .i64 (CA n).x) (.slice ua (CA n).o.length uc) = V2 at HN S2 ⊢
     have J1 := J0.block (S2.block _ J0.hi (by omega)) S2.size
     have JK := JH.block (S2.block _ JH.hi (by have := HHB.out; omega)) S2.size
     refine hK.out _ _ ⟨J1, JK⟩ (fun hH' => ?_)
     clear hK K
     replace hH := hH'
     clear hH' 
     refine wpAnyH_take (i := 6) (oi := { dst := some 6, op := Op.assign (Operand.const (Value.bool true)), type := 4, pos := "l15_memory.go:157", after := #[{ on := 5, ground := Ground.chain }, { on := 0, ground := Ground.phase }, { on := 1, ground := Ground.phase }, { on := 2, ground := Ground.phase }, { on := 3, ground := Ground.phase }, { on := 4, ground := Ground.phase }, { on := 5, ground := Ground.phase }], guard := none }) (v := .bool true) rfl (by kernel_rfl) (by kernel_rfl) (by kernel_rfl) (fun _ _ _ h => h) (Or.inl ⟨by rfl, fun w0 hSw => by (go_simp)⟩) hH ?_
     simp only [Act.put, List.setIfInBounds_toArray, List.set_cons_zero, List.set_cons_succ]
     refine wpAnyH_done (by kernel_rfl) ?_ _
     have FN := FN0.block (S2.block _ FN0.hi (by omega)) S2.size
     have BS : Bs (fun k => k = w.heap.size + 1 ∨ k = w.heap.size + 1 + 1) w5 V2 := (Bs.only S1 (Or.inl rfl)).trans (Bs.only S2 (Or.inr rfl))
     have BN : Below w.heap.size w V2 := (BWX.trans (B5.mono BWX.size)).trans (BS.below _ (fun k h => by rcases h with h | h <;> omega) (by have := I1.hi; omega))
     obtain ⟨RR, Y5, N5⟩ := L5.both (cp := cp)
     have dj : ∀ R k, Rg w3.heap.size w5.heap.size R k → ¬ (k = w.heap.size + 1 ∨ k = w.heap.size + 1 + 1) := fun R k h e => by have h1 := h.1; have h2 := HSZ.out; omega
     have Y6 := (Y5.bs BS (dj RR)).mono (Q := Rg w.heap.size V2.heap.size RR) (fun k h => ⟨by have h1 := h.1; have h2 := HSZ.out; omega, Nat.lt_of_lt_of_le h.2.1 BS.size, h.2.2⟩)
     have N6 : Ny (Rg w.heap.size V2.heap.size (fun k => ¬ RR k)) _ _ _ _ := (N5.bs BS (dj _)).mono (fun k h => ⟨by have h1 := h.1; have h2 := HSZ.out; omega, Nat.lt_of_lt_of_le h.2.1 BS.size, h.2.2⟩)
     clear hH S1 S2 I2a Y5 N5 BS dj I0 I1 I2 L5 LX CX GX B5 BWX FN0 J0 J1 JH JK
     go_wp2
     have r0 := FN.c0
     have r1 := FN.c1
     have r2 := FN.c2
     have r3 := FN.c3
     have r4 := FN.c4
     have r5 := FN.c5
     have sh0 := HN.c0
     have sh1 := HN.c1
     have sh2 := HN.c2
     exact bodyPost_ret (v := .tuple #[.agg #[.int .i64 (m : Int), .int .i64 (y : Int), .int .i64 (l : Int), .int .i64 (p : Int), .slice (some ⟨gm, 0, none⟩) m cp, .int .i64 (CA n).s.coin], .agg #[.int .i64 (CA n).h, .int .i64 (CA n).x, .slice ua (CA n).o.length uc], .bool true]) (by simp [results, Try.results35, go_sem, r0, r1, r2, r3, r4, r5, sh0, sh1, sh2]) rfl ⟨_, _, _, RR, rfl, Y6, N6, BN⟩
end Go.Proofs.Ytfhpjcojccfcoaa
