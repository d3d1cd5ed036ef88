/- CacheRead of both sides. -/
import Derived.Test.YtfhpjcojccfcoaaCr
namespace Go.Proofs.Ytfhpjcojccfcoaa
open Go.ChangeShapes Go.WideShapes Go.ChangeAt Go.RowKit
set_option linter.unusedVariables false
theorem arows_of {w : World} {v : Value} {m : Nat} {f : Nat → List Int} (h : ARowsC w v m f) : ARows w v m f := by
  obtain ⟨ad, c, h1, _, h2⟩ := h
  exact ⟨ad, c, h1, fun i hi => by obtain ⟨q, o, u, e1, e2, e3⟩ := h2 i hi; exact ⟨q, o, u, e1, e2, e3.row⟩⟩
set_option maxRecDepth 100000 in
set_option maxHeartbeats 2000000 in
theorem pcr_bad (s y l p c pl : Int) (v : Value) (n : Nat) (f : Nat → List Int) (w : World) (R : ARows w v n f) (hn : n ≤ 1048576) (hfl : ∀ x, x < n → (f x).length ≤ 1048576) (hb : (goodB s y l p n f c && accI pl) = false) : Calls Try.prog 33 #[.agg #[.int .i64 s, .int .i64 y, .int .i64 l, .int .i64 p, v, .int .i64 c], .int .i64 pl] w fun e w' => e = .returned (.tuple #[.agg #[.int .i64 0, .int .i64 0, .int .i64 0, .int .i64 0, .slice none 0 0, .int .i64 0], .bool false, .int .i64 (-1)]) ∧ Below w.heap.size w w' := by
  obtain ⟨ad, cap, hv, hR0⟩ := id R
  subst hv
  have hR := R
  clear R hR0
  obtain ⟨W, hW⟩ : ∃ W, W = (w.alloc (.cells #[.int .i64 s, .int .i64 y, .int .i64 l, .int .i64 p, .slice ad n cap, .int .i64 c] 42)).alloc (.cells #[.int .i64 0, .int .i64 0, .int .i64 0, .int .i64 0, .slice none 0 0, .int .i64 0] 42) := ⟨_, rfl⟩
  have BW : Below w.heap.size w W := by rw [hW]; exact ((Below.refl _ _).alloc (Nat.le_refl _) _).alloc (by rw [World.size_alloc]; omega) _
  have D0 : C6 W w.heap.size (.int .i64 s) (.int .i64 y) (.int .i64 l) (.int .i64 p) (.slice ad n cap) (.int .i64 c) := by rw [hW]; exact (C6.new _ _ _ _ _ _ _ _).next alloc_b
  have D1 : C6 W (w.heap.size + 1) (.int .i64 0) (.int .i64 0) (.int .i64 0) (.int .i64 0) (.slice none 0 0) (.int .i64 0) := by
    rw [hW]
    have h := C6.new (w.alloc (.cells #[.int .i64 s, .int .i64 y, .int .i64 l, .int .i64 p, .slice ad n cap, .int .i64 c] 42)) 42 (.int .i64 0) (.int .i64 0) (.int .i64 0) (.int .i64 0) (.slice none 0 0) (.int .i64 0)
    rwa [World.size_alloc] at h
  have HD : Hid (∀ w', Below W.heap.size W w' → C6 w' w.heap.size (.int .i64 s) (.int .i64 y) (.int .i64 l) (.int .i64 p) (.slice ad n cap) (.int .i64 c) ∧ C6 w' (w.heap.size + 1) (.int .i64 0) (.int .i64 0) (.int .i64 0) (.int .i64 0) (.slice none 0 0) (.int .i64 0)) := fun w' b => ⟨D0.next b, D1.next b⟩
  have HBW := Hid.mk BW
  have HRW : Hid (∀ w', Below w.heap.size w w' → ARows w' (.slice ad n cap) n f) := fun w' b => hR.next b
  have hG := pgood s y l p (.slice ad n cap) c n f W (HRW.out W BW) hn hfl
  clear D0 D1 BW hR HRW hn hfl
  cases hg : goodB s y l p n f c
  case false =>
    rw [hg] at hG
    clear hb hg
    subst hW
    go_enter Try.func33, Try.ntmps33
    go_wp2_with (first | (go_at_call 31; refine hG.mono ?_; rintro e w2 ⟨rfl, B2⟩; (obtain ⟨E0, E1⟩ := HD.out w2 B2); (have q0 := E1.c0); (have q1 := E1.c1); (have q2 := E1.c2); (have q3 := E1.c3); (have q4 := E1.c4); (have q5 := E1.c5); (have qf := E1.f)))
    have FN := E1.put (.int .i64 0) (.int .i64 0) (.int .i64 0) (.int .i64 0) (.slice none 0 0) (.int .i64 0)
    have ON := only_set6 w2 (w.heap.size + 1) (.int .i64 0) (.int .i64 0) (.int .i64 0) (.int .i64 0) (.slice none 0 0) (.int .i64 0)
    have BN : Below w.heap.size w (set6 w2 (w.heap.size + 1) (.int .i64 0) (.int .i64 0) (.int .i64 0) (.int .i64 0) (.slice none 0 0) (.int .i64 0)) := (HBW.out.trans (B2.mono HBW.out.size)).trans ⟨ON.os, ON.tape, ON.output, ON.size, fun b hb => ON.block b (by have := E1.hi; omega) (by omega)⟩

    clear ON q0 q1 q2 q3 q4 q5 qf E0 E1 hG HD HBW B2
    show bodyPost _ _ _ _ _ (set6 w2 (w.heap.size + 1) (.int .i64 0) (.int .i64 0) (.int .i64 0) (.int .i64 0) (.slice none 0 0) (.int .i64 0))
    generalize set6 w2 (w.heap.size + 1) (.int .i64 0) (.int .i64 0) (.int .i64 0) (.int .i64 0) (.slice none 0 0) (.int .i64 0) = V at FN BN  ⊢
    have r0 := FN.c0
    have r1 := FN.c1
    have r2 := FN.c2
    have r3 := FN.c3
    have r4 := FN.c4
    have r5 := FN.c5
    exact bodyPost_ret (v := .tuple #[.agg #[.int .i64 0, .int .i64 0, .int .i64 0, .int .i64 0, .slice none 0 0, .int .i64 0], .bool false, .int .i64 (-1)]) (by simp [results, Try.results33, go_sem, r0, r1, r2, r3, r4, r5]) rfl ⟨rfl, BN⟩
  rw [hg, Bool.true_and] at hb
  rw [hg] at hG
  clear hg
  have HAC : Hid (∀ w, Calls Try.prog 65 #[.int .i64 pl] w fun e w' => e = .returned (.bool false) ∧ w' = w) := fun w => by have := pacc pl w; unfold accI at hb; rwa [hb] at this
  clear hb
  · skip
    subst hW
    go_enter Try.func33, Try.ntmps33
    go_wp2_with (first | (go_at_call 31; refine hG.mono ?_; rintro e w2 ⟨rfl, B2⟩; (obtain ⟨E0, E1⟩ := HD.out w2 B2); (have q0 := E1.c0); (have q1 := E1.c1); (have q2 := E1.c2); (have q3 := E1.c3); (have q4 := E1.c4); (have q5 := E1.c5); (have qf := E1.f)) | (go_at_call 65; refine (HAC.out _).mono ?_; rintro e w3 ⟨rfl, hw3⟩; subst w3))
    have FN := E1.put (.int .i64 0) (.int .i64 0) (.int .i64 0) (.int .i64 0) (.slice none 0 0) (.int .i64 0)
    have ON := only_set6 w2 (w.heap.size + 1) (.int .i64 0) (.int .i64 0) (.int .i64 0) (.int .i64 0) (.slice none 0 0) (.int .i64 0)
    have BN : Below w.heap.size w (set6 w2 (w.heap.size + 1) (.int .i64 0) (.int .i64 0) (.int .i64 0) (.int .i64 0) (.slice none 0 0) (.int .i64 0)) := (HBW.out.trans (B2.mono HBW.out.size)).trans ⟨ON.os, ON.tape, ON.output, ON.size, fun b hb => ON.block b (by have := E1.hi; omega) (by omega)⟩

    clear ON q0 q1 q2 q3 q4 q5 qf E0 E1 hG HD HBW B2
    show bodyPost _ _ _ _ _ (set6 w2 (w.heap.size + 1) (.int .i64 0) (.int .i64 0) (.int .i64 0) (.int .i64 0) (.slice none 0 0) (.int .i64 0))
    generalize set6 w2 (w.heap.size + 1) (.int .i64 0) (.int .i64 0) (.int .i64 0) (.int .i64 0) (.slice none 0 0) (.int .i64 0) = V at FN BN  ⊢
    have r0 := FN.c0
    have r1 := FN.c1
    have r2 := FN.c2
    have r3 := FN.c3
    have r4 := FN.c4
    have r5 := FN.c5
    exact bodyPost_ret (v := .tuple #[.agg #[.int .i64 0, .int .i64 0, .int .i64 0, .int .i64 0, .slice none 0 0, .int .i64 0], .bool false, .int .i64 (-1)]) (by simp [results, Try.results33, go_sem, r0, r1, r2, r3, r4, r5]) rfl ⟨rfl, BN⟩
set_option maxRecDepth 100000 in
set_option maxHeartbeats 2000000 in
theorem mcr_bad (s y l p c pl : Int) (v : Value) (n : Nat) (f : Nat → List Int) (w : World) (R : ARowsC w v n f) (hn : n ≤ 1048576) (hfl : ∀ x, x < n → (f x).length ≤ 1048576) (hb : (goodB s y l p n f c && accI pl) = false) : Calls Try.prog 32 #[.agg #[.int .i64 s, .int .i64 y, .int .i64 l, .int .i64 p, v, .int .i64 c], .int .i64 pl] w fun e w' => e = .returned (.tuple #[.agg #[.int .i64 0, .int .i64 0, .int .i64 0, .int .i64 0, .slice none 0 0, .int .i64 0], .bool false, .int .i64 (-1)]) ∧ Below w.heap.size w w' := by
  obtain ⟨ad, cap, hv, hR0⟩ := id R
  subst hv
  have hR := R
  clear R hR0
  obtain ⟨W, hW⟩ : ∃ W, W = (w.alloc (.cells #[.int .i64 s, .int .i64 y, .int .i64 l, .int .i64 p, .slice ad n cap, .int .i64 c] 42)).alloc (.cells #[.int .i64 0, .int .i64 0, .int .i64 0, .int .i64 0, .slice none 0 0, .int .i64 0] 42) := ⟨_, rfl⟩
  have BW : Below w.heap.size w W := by rw [hW]; exact ((Below.refl _ _).alloc (Nat.le_refl _) _).alloc (by rw [World.size_alloc]; omega) _
  have D0 : C6 W w.heap.size (.int .i64 s) (.int .i64 y) (.int .i64 l) (.int .i64 p) (.slice ad n cap) (.int .i64 c) := by rw [hW]; exact (C6.new _ _ _ _ _ _ _ _).next alloc_b
  have D1 : C6 W (w.heap.size + 1) (.int .i64 0) (.int .i64 0) (.int .i64 0) (.int .i64 0) (.slice none 0 0) (.int .i64 0) := by
    rw [hW]
    have h := C6.new (w.alloc (.cells #[.int .i64 s, .int .i64 y, .int .i64 l, .int .i64 p, .slice ad n cap, .int .i64 c] 42)) 42 (.int .i64 0) (.int .i64 0) (.int .i64 0) (.int .i64 0) (.slice none 0 0) (.int .i64 0)
    rwa [World.size_alloc] at h
  have HD : Hid (∀ w', Below W.heap.size W w' → C6 w' w.heap.size (.int .i64 s) (.int .i64 y) (.int .i64 l) (.int .i64 p) (.slice ad n cap) (.int .i64 c) ∧ C6 w' (w.heap.size + 1) (.int .i64 0) (.int .i64 0) (.int .i64 0) (.int .i64 0) (.slice none 0 0) (.int .i64 0)) := fun w' b => ⟨D0.next b, D1.next b⟩
  have HBW := Hid.mk BW
  have HRW : Hid (∀ w', Below w.heap.size w w' → ARowsC w' (.slice ad n cap) n f) := fun w' b => hR.next b
  have hG := mgood s y l p (.slice ad n cap) c n f W (HRW.out W BW) hn hfl
  clear D0 D1 BW hR HRW hn hfl
  cases hg : goodB s y l p n f c
  case false =>
    rw [hg] at hG
    clear hb hg
    subst hW
    go_enter Try.func32, Try.ntmps32
    go_wp2_with (first | (go_at_call 29; refine hG.mono ?_; rintro e w2 ⟨rfl, B2⟩; (obtain ⟨E0, E1⟩ := HD.out w2 B2); (have q0 := E1.c0); (have q1 := E1.c1); (have q2 := E1.c2); (have q3 := E1.c3); (have q4 := E1.c4); (have q5 := E1.c5); (have qf := E1.f)))
    have FN := E1.put (.int .i64 0) (.int .i64 0) (.int .i64 0) (.int .i64 0) (.slice none 0 0) (.int .i64 0)
    have ON := only_set6 w2 (w.heap.size + 1) (.int .i64 0) (.int .i64 0) (.int .i64 0) (.int .i64 0) (.slice none 0 0) (.int .i64 0)
    have BN : Below w.heap.size w (set6 w2 (w.heap.size + 1) (.int .i64 0) (.int .i64 0) (.int .i64 0) (.int .i64 0) (.slice none 0 0) (.int .i64 0)) := (HBW.out.trans (B2.mono HBW.out.size)).trans ⟨ON.os, ON.tape, ON.output, ON.size, fun b hb => ON.block b (by have := E1.hi; omega) (by omega)⟩

    clear ON q0 q1 q2 q3 q4 q5 qf E0 E1 hG HD HBW B2
    show bodyPost _ _ _ _ _ (set6 w2 (w.heap.size + 1) (.int .i64 0) (.int .i64 0) (.int .i64 0) (.int .i64 0) (.slice none 0 0) (.int .i64 0))
    generalize set6 w2 (w.heap.size + 1) (.int .i64 0) (.int .i64 0) (.int .i64 0) (.int .i64 0) (.slice none 0 0) (.int .i64 0) = V at FN BN  ⊢
    have r0 := FN.c0
    have r1 := FN.c1
    have r2 := FN.c2
    have r3 := FN.c3
    have r4 := FN.c4
    have r5 := FN.c5
    exact bodyPost_ret (v := .tuple #[.agg #[.int .i64 0, .int .i64 0, .int .i64 0, .int .i64 0, .slice none 0 0, .int .i64 0], .bool false, .int .i64 (-1)]) (by simp [results, Try.results32, go_sem, r0, r1, r2, r3, r4, r5]) rfl ⟨rfl, BN⟩
  rw [hg, Bool.true_and] at hb
  rw [hg] at hG
  clear hg
  by_cases h0 : pl < 0
  · clear hb
    subst hW
    go_enter Try.func32, Try.ntmps32
    go_wp2_with (first | (go_at_call 29; refine hG.mono ?_; rintro e w2 ⟨rfl, B2⟩; (obtain ⟨E0, E1⟩ := HD.out w2 B2); (have q0 := E1.c0); (have q1 := E1.c1); (have q2 := E1.c2); (have q3 := E1.c3); (have q4 := E1.c4); (have q5 := E1.c5); (have qf := E1.f)))
    have FN := E1.put (.int .i64 0) (.int .i64 0) (.int .i64 0) (.int .i64 0) (.slice none 0 0) (.int .i64 0)
    have ON := only_set6 w2 (w.heap.size + 1) (.int .i64 0) (.int .i64 0) (.int .i64 0) (.int .i64 0) (.slice none 0 0) (.int .i64 0)
    have BN : Below w.heap.size w (set6 w2 (w.heap.size + 1) (.int .i64 0) (.int .i64 0) (.int .i64 0) (.int .i64 0) (.slice none 0 0) (.int .i64 0)) := (HBW.out.trans (B2.mono HBW.out.size)).trans ⟨ON.os, ON.tape, ON.output, ON.size, fun b hb => ON.block b (by have := E1.hi; omega) (by omega)⟩

    clear ON q0 q1 q2 q3 q4 q5 qf E0 E1 hG HD HBW B2
    show bodyPost _ _ _ _ _ (set6 w2 (w.heap.size + 1) (.int .i64 0) (.int .i64 0) (.int .i64 0) (.int .i64 0) (.slice none 0 0) (.int .i64 0))
    generalize set6 w2 (w.heap.size + 1) (.int .i64 0) (.int .i64 0) (.int .i64 0) (.int .i64 0) (.slice none 0 0) (.int .i64 0) = V at FN BN  ⊢
    have r0 := FN.c0
    have r1 := FN.c1
    have r2 := FN.c2
    have r3 := FN.c3
    have r4 := FN.c4
    have r5 := FN.c5
    exact bodyPost_ret (v := .tuple #[.agg #[.int .i64 0, .int .i64 0, .int .i64 0, .int .i64 0, .slice none 0 0, .int .i64 0], .bool false, .int .i64 (-1)]) (by simp [results, Try.results32, go_sem, r0, r1, r2, r3, r4, r5]) rfl ⟨rfl, BN⟩
  · have h1 : 1000000 < pl := by
      unfold accI at hb
      by_cases h : pl ≤ 1000000
      · rw [decide_eq_true h, decide_eq_true (show 0 ≤ pl by omega)] at hb; cases hb
      · omega
    clear hb
    subst hW
    go_enter Try.func32, Try.ntmps32
    go_wp2_with (first | (go_at_call 29; refine hG.mono ?_; rintro e w2 ⟨rfl, B2⟩; (obtain ⟨E0, E1⟩ := HD.out w2 B2); (have q0 := E1.c0); (have q1 := E1.c1); (have q2 := E1.c2); (have q3 := E1.c3); (have q4 := E1.c4); (have q5 := E1.c5); (have qf := E1.f)))
    have FN := E1.put (.int .i64 0) (.int .i64 0) (.int .i64 0) (.int .i64 0) (.slice none 0 0) (.int .i64 0)
    have ON := only_set6 w2 (w.heap.size + 1) (.int .i64 0) (.int .i64 0) (.int .i64 0) (.int .i64 0) (.slice none 0 0) (.int .i64 0)
    have BN : Below w.heap.size w (set6 w2 (w.heap.size + 1) (.int .i64 0) (.int .i64 0) (.int .i64 0) (.int .i64 0) (.slice none 0 0) (.int .i64 0)) := (HBW.out.trans (B2.mono HBW.out.size)).trans ⟨ON.os, ON.tape, ON.output, ON.size, fun b hb => ON.block b (by have := E1.hi; omega) (by omega)⟩

    clear ON q0 q1 q2 q3 q4 q5 qf E0 E1 hG HD HBW B2
    show bodyPost _ _ _ _ _ (set6 w2 (w.heap.size + 1) (.int .i64 0) (.int .i64 0) (.int .i64 0) (.int .i64 0) (.slice none 0 0) (.int .i64 0))
    generalize set6 w2 (w.heap.size + 1) (.int .i64 0) (.int .i64 0) (.int .i64 0) (.int .i64 0) (.slice none 0 0) (.int .i64 0) = V at FN BN  ⊢
    have r0 := FN.c0
    have r1 := FN.c1
    have r2 := FN.c2
    have r3 := FN.c3
    have r4 := FN.c4
    have r5 := FN.c5
    exact bodyPost_ret (v := .tuple #[.agg #[.int .i64 0, .int .i64 0, .int .i64 0, .int .i64 0, .slice none 0 0, .int .i64 0], .bool false, .int .i64 (-1)]) (by simp [results, Try.results32, go_sem, r0, r1, r2, r3, r4, r5]) rfl ⟨rfl, BN⟩
set_option maxRecDepth 100000 in
set_option maxHeartbeats 2000000 in
theorem pcr_ok (m y l p : Nat) (c pl : Int) (v : Value) (f : Nat → List Int) (w : World) (R : ARows w v m f) (g : goodB (m : Int) (y : Int) (l : Int) (p : Int) m f c = true) (a : accI pl = true) : Calls Try.prog 33 #[.agg #[.int .i64 (m : Int), .int .i64 (y : Int), .int .i64 (l : Int), .int .i64 (p : Int), v, .int .i64 c], .int .i64 pl] w fun e w' => ∃ a k, e = .returned (.tuple #[.agg #[.int .i64 (m : Int), .int .i64 (y : Int), .int .i64 (l : Int), .int .i64 (p : Int), .slice a m k, .int .i64 (Cs.rd ⟨f, c⟩ m y l p pl).coin], .bool (Cs.hit ⟨f, c⟩ m y l p pl), .int .i64 (Cs.out ⟨f, c⟩ m y l p pl)]) ∧ Ax w.heap.size w'.heap.size w' (.slice a m k) m (Cs.rd ⟨f, c⟩ m y l p pl).L ∧ Below w.heap.size w w' := by
  obtain ⟨hnew, _, hc, hsets⟩ := goodB_iff g
  obtain ⟨hm, hy, hl, hp⟩ := newB_iff hnew
  have m1 : 1 ≤ m := by have := (pwB_iff hm).1; omega
  have m2 : m ≤ 64 := by have := (pwB_iff hm).2; omega
  have l1 : 16 ≤ l := by have := (pwB_iff hl).1; omega
  have l2 : l ≤ 256 := by have := (pwB_iff hl).2; omega
  have ok : Cs.ok ⟨f, c⟩ m y := ⟨fun x hx => setB_P (hsets x hx), hc.1, by show c < 65536; omega⟩
  have hf8 : ∀ x, x < m → (f x).length ≤ 8 := fun x hx => by have h : (f x).length ≤ y := (ok.1 x hx).1; omega
  have hacc : 0 ≤ pl ∧ pl ≤ 1000000 := by simpa [accI] using a
  obtain ⟨ad, cap, hv, hR0⟩ := id R
  subst hv
  have hR := R
  clear R hR0
  obtain ⟨W, hW⟩ : ∃ W, W = (w.alloc (.cells #[.int .i64 (m : Int), .int .i64 (y : Int), .int .i64 (l : Int), .int .i64 (p : Int), .slice ad m cap, .int .i64 c] 42)).alloc (.cells #[.int .i64 0, .int .i64 0, .int .i64 0, .int .i64 0, .slice none 0 0, .int .i64 0] 42) := ⟨_, rfl⟩
  have BW : Below w.heap.size w W := by rw [hW]; exact ((Below.refl _ _).alloc (Nat.le_refl _) _).alloc (by rw [World.size_alloc]; omega) _
  have D0 : C6 W w.heap.size (.int .i64 (m : Int)) (.int .i64 (y : Int)) (.int .i64 (l : Int)) (.int .i64 (p : Int)) (.slice ad m cap) (.int .i64 c) := by rw [hW]; exact (C6.new _ _ _ _ _ _ _ _).next alloc_b
  have D1 : C6 W (w.heap.size + 1) (.int .i64 0) (.int .i64 0) (.int .i64 0) (.int .i64 0) (.slice none 0 0) (.int .i64 0) := by
    rw [hW]
    have h := C6.new (w.alloc (.cells #[.int .i64 (m : Int), .int .i64 (y : Int), .int .i64 (l : Int), .int .i64 (p : Int), .slice ad m cap, .int .i64 c] 42)) 42 (.int .i64 0) (.int .i64 0) (.int .i64 0) (.int .i64 0) (.slice none 0 0) (.int .i64 0)
    rwa [World.size_alloc] at h
  have HD : Hid (∀ w', Below W.heap.size W w' → C6 w' w.heap.size (.int .i64 (m : Int)) (.int .i64 (y : Int)) (.int .i64 (l : Int)) (.int .i64 (p : Int)) (.slice ad m cap) (.int .i64 c) ∧ C6 w' (w.heap.size + 1) (.int .i64 0) (.int .i64 0) (.int .i64 0) (.int .i64 0) (.slice none 0 0) (.int .i64 0)) := fun w' b => ⟨D0.next b, D1.next b⟩
  have HBW := Hid.mk BW
  have HRW : Hid (∀ w', Below w.heap.size w w' → ARows w' (.slice ad m cap) m f) := fun w' b => hR.next b
  have hG := pgood (m : Int) (y : Int) (l : Int) (p : Int) (.slice ad m cap) c m f W (HRW.out W BW) (by omega) (fun x hx => by have := hf8 x hx; omega)
  rw [g] at hG
  have HAC : Hid (∀ w, Calls Try.prog 65 #[.int .i64 pl] w fun e w' => e = .returned (.bool true) ∧ w' = w) := fun w => by have := pacc pl w; unfold accI at a; rwa [a] at this
  have HLV : Hid (∀ w', Below w.heap.size w w' → Calls Try.prog 66 #[.agg #[.int .i64 (m : Int), .int .i64 (y : Int), .int .i64 (l : Int), .int .i64 (p : Int), .slice ad m cap, .int .i64 c]] w' fun e w'' => ∃ lb gm cp U, e = .returned (.pointer (some ⟨lb, 0, none⟩)) ∧ C5 w'' lb (.slice (some ⟨gm, 0, none⟩) m cp) (.int .i64 (y : Int)) (.int .i64 (l : Int)) (polV (p : Int)) (.int .i64 c) ∧ m ≤ cp ∧ Kx w'.heap.size w'' lb gm m U f ∧ Below w'.heap.size w' w'') := fun w' b => plevel _ _ _ _ _ _ m f w' (HRW.out w' b) m1 m2 hf8
  have HRD : Hid (∀ B lb gm cp U w', C5 w' lb (.slice (some ⟨gm, 0, none⟩) m cp) (.int .i64 (y : Int)) (.int .i64 (l : Int)) (polV (p : Int)) (.int .i64 c) → Kx B w' lb gm m U f → m ≤ cp → Calls Try.prog 67 #[.pointer (some ⟨lb, 0, none⟩), .int .i64 pl] w' fun e w'' => e = .returned (.tuple #[.bool (Cs.hit ⟨f, c⟩ m y l p pl), .int .i64 (Cs.out ⟨f, c⟩ m y l p pl)]) ∧ C5 w'' lb (.slice (some ⟨gm, 0, none⟩) m cp) (.int .i64 (y : Int)) (.int .i64 (l : Int)) (polV (p : Int)) (.int .i64 (Cs.rd ⟨f, c⟩ m y l p pl).coin) ∧ ∃ U', Kx B w'' lb gm m U' (Cs.rd ⟨f, c⟩ m y l p pl).L ∧ Fr lb gm m U U' w' w'') := fun B lb gm cp U w' C5x Kxx hcp => pread B lb gm m y l p cp U f c pl w' C5x Kxx ok m1 m2 (by omega) (by omega) l1 l2 (by omega) (by omega) hacc.1 hacc.2 hcp
  generalize Cs.hit ⟨f, c⟩ m y l p pl = HI at HRD ⊢
  generalize Cs.out ⟨f, c⟩ m y l p pl = OU at HRD ⊢
  generalize Cs.rd ⟨f, c⟩ m y l p pl = RD at HRD ⊢
  clear D0 D1 BW hR HRW ok hsets hf8 hnew hm hl g a
  subst hW
  go_enter Try.func33, Try.ntmps33
  go_wp2_with (first | (go_at_call 31; refine hG.mono ?_; rintro e w2 ⟨rfl, B2⟩; (obtain ⟨E0, E1⟩ := HD.out w2 B2); (have e0 := E0.c0); (have e1 := E0.c1); (have e2 := E0.c2); (have e3 := E0.c3); (have e4 := E0.c4); (have e5 := E0.c5); (have ef := E0.f)) | (go_at_call 65; refine (HAC.out _).mono ?_; rintro e w3 ⟨rfl, hw3⟩; subst w3) | (go_at_call 66; refine (HLV.out w2 (HBW.out.trans (B2.mono HBW.out.size))).mono ?_; rintro e w3 ⟨lb, gm, cp, U, rfl, C3, hcp, K3, B3⟩) | (go_at_call 67; refine (HRD.out _ _ _ _ _ w3 C3 K3 hcp).mono ?_; rintro e w4 ⟨rfl, C4, U4, K4, F4⟩; (have B24 : Below w2.heap.size w2 w4 := B3.trans (F4.below K3)); (obtain ⟨G0, G1⟩ := HD.out w4 (B2.trans (B24.mono B2.size))); (have g0 := G0.c0); (have g1 := G0.c1); (have g2 := G0.c2); (have g3 := G0.c3); (have g4 := G0.c4); (have g5 := G0.c5); (have gf := G0.f)) | (go_at_call 68; refine (pleft _ _ _ _ _ _ _ _ _ _ _ _ _ _ _ _ w4 C4).mono ?_; rintro e w5 ⟨rfl, B5⟩; (have B25 : Below w2.heap.size w2 w5 := B24.trans (B5.mono B24.size)); (obtain ⟨I0, I1⟩ := HD.out w5 (B2.trans (B25.mono B2.size))); (have q0 := I1.c0); (have q1 := I1.c1); (have q2 := I1.c2); (have q3 := I1.c3); (have q4 := I1.c4); (have q5 := I1.c5); (have qf := I1.f)))
  have FN := I1.put (.int .i64 (m : Int)) (.int .i64 (y : Int)) (.int .i64 (l : Int)) (.int .i64 (p : Int)) (.slice (some ⟨gm, 0, none⟩) m cp) (.int .i64 RD.coin)
  have ON := only_set6 w5 (w.heap.size + 1) (.int .i64 (m : Int)) (.int .i64 (y : Int)) (.int .i64 (l : Int)) (.int .i64 (p : Int)) (.slice (some ⟨gm, 0, none⟩) m cp) (.int .i64 RD.coin)
  have BN : Below w.heap.size w (set6 w5 (w.heap.size + 1) (.int .i64 (m : Int)) (.int .i64 (y : Int)) (.int .i64 (l : Int)) (.int .i64 (p : Int)) (.slice (some ⟨gm, 0, none⟩) m cp) (.int .i64 RD.coin)) := (HBW.out.trans ((B2.trans (B25.mono B2.size)).mono HBW.out.size)).trans ⟨ON.os, ON.tape, ON.output, ON.size, fun b hb => ON.block b (by have := I1.hi; omega) (by omega)⟩
  have X5 := (K4.next B5).ax (cp := cp)
  have e1h := E1.hi
  have X6 := (X5.btw (Btw.only ON) (Or.inr (by omega))).mono (lo' := w.heap.size) (by omega) ON.size
  clear ON q0 q1 q2 q3 q4 q5 qf e0 e1 e2 e3 e4 e5 ef g0 g1 g2 g3 g4 g5 gf E0 E1 G0 G1 I0 I1 hG HD HBW B2 B3 B24 B25 B5 C3 K3 C4 K4 F4 HLV HRD HAC X5
  show bodyPost _ _ _ _ _ (set6 w5 (w.heap.size + 1) (.int .i64 (m : Int)) (.int .i64 (y : Int)) (.int .i64 (l : Int)) (.int .i64 (p : Int)) (.slice (some ⟨gm, 0, none⟩) m cp) (.int .i64 RD.coin))
  generalize set6 w5 (w.heap.size + 1) (.int .i64 (m : Int)) (.int .i64 (y : Int)) (.int .i64 (l : Int)) (.int .i64 (p : Int)) (.slice (some ⟨gm, 0, none⟩) m cp) (.int .i64 RD.coin) = V at FN BN X6 ⊢
  have r0 := FN.c0
  have r1 := FN.c1
  have r2 := FN.c2
  have r3 := FN.c3
  have r4 := FN.c4
  have r5 := FN.c5
  exact bodyPost_ret (v := .tuple #[.agg #[.int .i64 (m : Int), .int .i64 (y : Int), .int .i64 (l : Int), .int .i64 (p : Int), .slice (some ⟨gm, 0, none⟩) m cp, .int .i64 RD.coin], .bool HI, .int .i64 OU]) (by simp [results, Try.results33, go_sem, r0, r1, r2, r3, r4, r5]) rfl ⟨_, _, rfl, X6, BN⟩
set_option maxRecDepth 100000 in
set_option maxHeartbeats 2000000 in
theorem mcr_ok (m y l p : Nat) (c pl : Int) (v : Value) (f : Nat → List Int) (w : World) (R : ARowsC w v m f) (g : goodB (m : Int) (y : Int) (l : Int) (p : Int) m f c = true) (a : accI pl = true) : Calls Try.prog 32 #[.agg #[.int .i64 (m : Int), .int .i64 (y : Int), .int .i64 (l : Int), .int .i64 (p : Int), v, .int .i64 c], .int .i64 pl] w fun e w' => ∃ a k, e = .returned (.tuple #[.agg #[.int .i64 (m : Int), .int .i64 (y : Int), .int .i64 (l : Int), .int .i64 (p : Int), .slice a m k, .int .i64 (Cs.rd ⟨f, c⟩ m y l p pl).coin], .bool (Cs.hit ⟨f, c⟩ m y l p pl), .int .i64 (Cs.out ⟨f, c⟩ m y l p pl)]) ∧ Ax w.heap.size w'.heap.size w' (.slice a m k) m (Cs.rd ⟨f, c⟩ m y l p pl).L ∧ Below w.heap.size w w' := by
  obtain ⟨hnew, _, hc, hsets⟩ := goodB_iff g
  obtain ⟨hm, hy, hl, hp⟩ := newB_iff hnew
  have m1 : 1 ≤ m := by have := (pwB_iff hm).1; omega
  have m2 : m ≤ 64 := by have := (pwB_iff hm).2; omega
  have l1 : 16 ≤ l := by have := (pwB_iff hl).1; omega
  have l2 : l ≤ 256 := by have := (pwB_iff hl).2; omega
  have ok : Cs.ok ⟨f, c⟩ m y := ⟨fun x hx => setB_P (hsets x hx), hc.1, by show c < 65536; omega⟩
  have hf8 : ∀ x, x < m → (f x).length ≤ 8 := fun x hx => by have h : (f x).length ≤ y := (ok.1 x hx).1; omega
  have hacc : 0 ≤ pl ∧ pl ≤ 1000000 := by simpa [accI] using a
  obtain ⟨ad, cap, hv, hR0⟩ := id R
  subst hv
  have hR := R
  clear R hR0
  obtain ⟨W, hW⟩ : ∃ W, W = (w.alloc (.cells #[.int .i64 (m : Int), .int .i64 (y : Int), .int .i64 (l : Int), .int .i64 (p : Int), .slice ad m cap, .int .i64 c] 42)).alloc (.cells #[.int .i64 0, .int .i64 0, .int .i64 0, .int .i64 0, .slice none 0 0, .int .i64 0] 42) := ⟨_, rfl⟩
  have BW : Below w.heap.size w W := by rw [hW]; exact ((Below.refl _ _).alloc (Nat.le_refl _) _).alloc (by rw [World.size_alloc]; omega) _
  have D0 : C6 W w.heap.size (.int .i64 (m : Int)) (.int .i64 (y : Int)) (.int .i64 (l : Int)) (.int .i64 (p : Int)) (.slice ad m cap) (.int .i64 c) := by rw [hW]; exact (C6.new _ _ _ _ _ _ _ _).next alloc_b
  have D1 : C6 W (w.heap.size + 1) (.int .i64 0) (.int .i64 0) (.int .i64 0) (.int .i64 0) (.slice none 0 0) (.int .i64 0) := by
    rw [hW]
    have h := C6.new (w.alloc (.cells #[.int .i64 (m : Int), .int .i64 (y : Int), .int .i64 (l : Int), .int .i64 (p : Int), .slice ad m cap, .int .i64 c] 42)) 42 (.int .i64 0) (.int .i64 0) (.int .i64 0) (.int .i64 0) (.slice none 0 0) (.int .i64 0)
    rwa [World.size_alloc] at h
  have HD : Hid (∀ w', Below W.heap.size W w' → C6 w' w.heap.size (.int .i64 (m : Int)) (.int .i64 (y : Int)) (.int .i64 (l : Int)) (.int .i64 (p : Int)) (.slice ad m cap) (.int .i64 c) ∧ C6 w' (w.heap.size + 1) (.int .i64 0) (.int .i64 0) (.int .i64 0) (.int .i64 0) (.slice none 0 0) (.int .i64 0)) := fun w' b => ⟨D0.next b, D1.next b⟩
  have HBW := Hid.mk BW
  have HRW : Hid (∀ w', Below w.heap.size w w' → ARowsC w' (.slice ad m cap) m f) := fun w' b => hR.next b
  have hG := mgood (m : Int) (y : Int) (l : Int) (p : Int) (.slice ad m cap) c m f W (HRW.out W BW) (by omega) (fun x hx => by have := hf8 x hx; omega)
  rw [g] at hG
  have HCL : Hid (∀ w', Below w.heap.size w w' → Calls Try.prog 63 #[.agg #[.int .i64 (m : Int), .int .i64 (y : Int), .int .i64 (l : Int), .int .i64 (p : Int), .slice ad m cap, .int .i64 c]] w' fun e w'' => ∃ U, e = .returned (.agg #[.int .i64 (m : Int), .int .i64 (y : Int), .int .i64 (l : Int), .int .i64 (p : Int), .slice (some ⟨w'.heap.size + 1 + 1, 0, none⟩) m m, .int .i64 c]) ∧ Kx w'.heap.size w'' w'.heap.size (w'.heap.size + 1 + 1) m U f ∧ Below w'.heap.size w' w'') := fun w' b => mclone _ _ _ _ _ _ m f w' (arows_of (HRW.out w' b)) m2 hf8
  have HRD : Hid (∀ B cb gm cp U w', C6 w' cb (.int .i64 (m : Int)) (.int .i64 (y : Int)) (.int .i64 (l : Int)) (.int .i64 (p : Int)) (.slice (some ⟨gm, 0, none⟩) m cp) (.int .i64 c) → Kx B w' cb gm m U f → m ≤ cp → Calls Try.prog 64 #[.pointer (some ⟨cb, 0, none⟩), .int .i64 pl] w' fun e w'' => e = .returned (.tuple #[.bool (Cs.hit ⟨f, c⟩ m y l p pl), .int .i64 (Cs.out ⟨f, c⟩ m y l p pl)]) ∧ C6 w'' cb (.int .i64 (m : Int)) (.int .i64 (y : Int)) (.int .i64 (l : Int)) (.int .i64 (p : Int)) (.slice (some ⟨gm, 0, none⟩) m cp) (.int .i64 (Cs.rd ⟨f, c⟩ m y l p pl).coin) ∧ ∃ U', Kx B w'' cb gm m U' (Cs.rd ⟨f, c⟩ m y l p pl).L ∧ Fr cb gm m U U' w' w'') := fun B cb gm cp U w' C6x Kxx hcp => mread B cb gm m y l p cp U f c pl w' C6x Kxx ok m1 m2 (by omega) (by omega) l1 l2 (by omega) (by omega) hacc.1 hacc.2 hcp
  have h0 : ¬ pl < 0 := by omega
  have h1 : ¬ 1000000 < pl := by omega
  generalize Cs.hit ⟨f, c⟩ m y l p pl = HI at HRD ⊢
  generalize Cs.out ⟨f, c⟩ m y l p pl = OU at HRD ⊢
  generalize Cs.rd ⟨f, c⟩ m y l p pl = RD at HRD ⊢
  clear D0 D1 BW hR HRW ok hsets hf8 hnew hm hl g a
  subst hW
  go_enter Try.func32, Try.ntmps32
  go_wp2_with (first | (go_at_call 29; refine hG.mono ?_; rintro e w2 ⟨rfl, B2⟩; (obtain ⟨E0, E1⟩ := HD.out w2 B2); (have e0 := E0.c0); (have e1 := E0.c1); (have e2 := E0.c2); (have e3 := E0.c3); (have e4 := E0.c4); (have e5 := E0.c5); (have ef := E0.f)) | (go_at_call 63; refine (HCL.out w2 (HBW.out.trans (B2.mono HBW.out.size))).mono ?_; rintro e w3 ⟨U, rfl, K3, B3⟩) | (go_at_call 64; (have K3b : Kx w2.heap.size (w3.alloc (.cells #[.int .i64 (m : Int), .int .i64 (y : Int), .int .i64 (l : Int), .int .i64 (p : Int), .slice (some ⟨w2.heap.size + 1 + 1, 0, none⟩) m m, .int .i64 c] 42)) w3.heap.size (w2.heap.size + 1 + 1) m U f := (K3.next alloc_b).rehead (by rw [World.size_alloc]; omega) (by have := K3.hg; omega) (fun x hx e => by have := (K3.lt x hx _ e).2; omega) B3.size); (have C3 := C6.new w3 42 (.int .i64 (m : Int)) (.int .i64 (y : Int)) (.int .i64 (l : Int)) (.int .i64 (p : Int)) (.slice (some ⟨w2.heap.size + 1 + 1, 0, none⟩) m m) (.int .i64 c)); refine (HRD.out _ _ _ _ _ _ C3 K3b (Nat.le_refl _)).mono ?_; rintro e w4 ⟨rfl, C4, U4, K4, F4⟩; (have B24 : Below w2.heap.size w2 w4 := (B3.alloc B3.size _).trans (F4.below K3b)); (obtain ⟨G0, G1⟩ := HD.out w4 (B2.trans (B24.mono B2.size))); (have g0 := C4.c0); (have g1 := C4.c1); (have g2 := C4.c2); (have g3 := C4.c3); (have g4 := C4.c4); (have g5 := C4.c5); (have gf := C4.f); (have q0 := G1.c0); (have q1 := G1.c1); (have q2 := G1.c2); (have q3 := G1.c3); (have q4 := G1.c4); (have q5 := G1.c5); (have qf := G1.f)))
  have FN := G1.put (.int .i64 (m : Int)) (.int .i64 (y : Int)) (.int .i64 (l : Int)) (.int .i64 (p : Int)) (.slice (some ⟨w2.heap.size + 1 + 1, 0, none⟩) m m) (.int .i64 RD.coin)
  have ON := only_set6 w4 (w.heap.size + 1) (.int .i64 (m : Int)) (.int .i64 (y : Int)) (.int .i64 (l : Int)) (.int .i64 (p : Int)) (.slice (some ⟨w2.heap.size + 1 + 1, 0, none⟩) m m) (.int .i64 RD.coin)
  have BN : Below w.heap.size w (set6 w4 (w.heap.size + 1) (.int .i64 (m : Int)) (.int .i64 (y : Int)) (.int .i64 (l : Int)) (.int .i64 (p : Int)) (.slice (some ⟨w2.heap.size + 1 + 1, 0, none⟩) m m) (.int .i64 RD.coin)) := (HBW.out.trans ((B2.trans (B24.mono B2.size)).mono HBW.out.size)).trans ⟨ON.os, ON.tape, ON.output, ON.size, fun b hb => ON.block b (by have := G1.hi; omega) (by omega)⟩
  have X5 := K4.ax (cp := m)
  have e1h := E1.hi
  have X6 := (X5.btw (Btw.only ON) (Or.inr (by omega))).mono (lo' := w.heap.size) (by omega) ON.size
  clear ON q0 q1 q2 q3 q4 q5 qf e0 e1 e2 e3 e4 e5 ef g0 g1 g2 g3 g4 g5 gf E0 E1 G0 G1 hG HD HBW B2 B3 B24 K3 K3b C3 C4 K4 F4 HCL HRD X5
  show bodyPost _ _ _ _ _ (set6 w4 (w.heap.size + 1) (.int .i64 (m : Int)) (.int .i64 (y : Int)) (.int .i64 (l : Int)) (.int .i64 (p : Int)) (.slice (some ⟨w2.heap.size + 1 + 1, 0, none⟩) m m) (.int .i64 RD.coin))
  generalize set6 w4 (w.heap.size + 1) (.int .i64 (m : Int)) (.int .i64 (y : Int)) (.int .i64 (l : Int)) (.int .i64 (p : Int)) (.slice (some ⟨w2.heap.size + 1 + 1, 0, none⟩) m m) (.int .i64 RD.coin) = V at FN BN X6 ⊢
  have r0 := FN.c0
  have r1 := FN.c1
  have r2 := FN.c2
  have r3 := FN.c3
  have r4 := FN.c4
  have r5 := FN.c5
  exact bodyPost_ret (v := .tuple #[.agg #[.int .i64 (m : Int), .int .i64 (y : Int), .int .i64 (l : Int), .int .i64 (p : Int), .slice (some ⟨w2.heap.size + 1 + 1, 0, none⟩) m m, .int .i64 RD.coin], .bool HI, .int .i64 OU]) (by simp [results, Try.results32, go_sem, r0, r1, r2, r3, r4, r5]) rfl ⟨_, _, rfl, X6, BN⟩
theorem cr_both (s y l q c pl : Int) (n : Nat) (f : Nat → List Int) (hn : n ≤ 1048576) (hl : ∀ x, x < n → (f x).length ≤ 1048576) : ∃ (A0 A1 A2 A3 A5 : Int) (n' : Nat) (L' : Nat → List Int) (H : Bool) (O : Int), n' ≤ 64 ∧ (∀ x, x < n' → (L' x).length ≤ 8) ∧ (∀ w v, ARowsC w v n f → Calls Try.prog 32 #[.agg #[.int .i64 s, .int .i64 y, .int .i64 l, .int .i64 q, v, .int .i64 c], .int .i64 pl] w fun e w' => ∃ a k, e = .returned (.tuple #[.agg #[.int .i64 A0, .int .i64 A1, .int .i64 A2, .int .i64 A3, .slice a n' k, .int .i64 A5], .bool H, .int .i64 O]) ∧ Ax w.heap.size w'.heap.size w' (.slice a n' k) n' L' ∧ Below w.heap.size w w') ∧ (∀ w v, ARows w v n f → Calls Try.prog 33 #[.agg #[.int .i64 s, .int .i64 y, .int .i64 l, .int .i64 q, v, .int .i64 c], .int .i64 pl] w fun e w' => ∃ a k, e = .returned (.tuple #[.agg #[.int .i64 A0, .int .i64 A1, .int .i64 A2, .int .i64 A3, .slice a n' k, .int .i64 A5], .bool H, .int .i64 O]) ∧ Ax w.heap.size w'.heap.size w' (.slice a n' k) n' L' ∧ Below w.heap.size w w') := by
  cases hb : (goodB s y l q n f c && accI pl)
  · exact ⟨0, 0, 0, 0, 0, 0, fun _ => [], false, -1, Nat.zero_le _, fun x hx => absurd hx (Nat.not_lt_zero _), fun w v R => (mcr_bad s y l q c pl v n f w R hn hl hb).mono fun e w' ⟨h1, h2⟩ => ⟨none, 0, h1, ax_none _ _ _ _, h2⟩, fun w v R => (pcr_bad s y l q c pl v n f w R hn hl hb).mono fun e w' ⟨h1, h2⟩ => ⟨none, 0, h1, ax_none _ _ _ _, h2⟩⟩
  · obtain ⟨hg, ha⟩ : goodB s y l q n f c = true ∧ accI pl = true := by simpa using hb
    obtain ⟨hnew, hns, hc, hsets⟩ := goodB_iff hg
    obtain ⟨hm, hy, hli, hp⟩ := newB_iff hnew
    have g1 := (pwB_iff hm).2
    have g0 := (pwB_iff hm).1
    have g2 := (pwB_iff hli).1
    obtain ⟨yn, rfl⟩ : ∃ k : Nat, y = (k : Int) := ⟨y.toNat, by omega⟩
    obtain ⟨ln, rfl⟩ : ∃ k : Nat, l = (k : Int) := ⟨l.toNat, by omega⟩
    obtain ⟨pn, rfl⟩ : ∃ k : Nat, q = (k : Int) := ⟨q.toNat, by omega⟩
    subst hns
    have hacc : 0 ≤ pl ∧ pl ≤ 1000000 := by simpa [accI] using ha
    have ok : Cs.ok ⟨f, c⟩ n yn := ⟨fun x hx => setB_P (hsets x hx), hc.1, by show c < 65536; omega⟩
    have ok2 := Cs.rd_ok (line := (ln : Int)) (pol := (pn : Int)) ok (by omega) (by omega) g2 hacc.1 hacc.2
    exact ⟨_, _, _, _, _, n, _, _, _, by omega, fun x hx => by have h := (ok2.1 x hx).1; exact Nat.le_trans h (by omega), fun w v R => mcr_ok n yn ln pn c pl v f w R hg ha, fun w v R => pcr_ok n yn ln pn c pl v f w R hg ha⟩
end Go.Proofs.Ytfhpjcojccfcoaa
