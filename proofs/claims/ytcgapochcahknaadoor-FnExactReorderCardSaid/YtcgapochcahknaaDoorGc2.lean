/- Contract of goodCall: whether an ICall is as said; conditions: the bounds of a word, the table of calls holds its names and numbers. -/
import Derived.Test.YtcgapochcahknaaDoorGc
import Derived.Deep.Cut
import Derived.Deep.DeepCutAuto
namespace Go.Proofs.YtcgapochcahknaaDoor
open Go.ChangeShapes Go.WideShapes Go.ChangeAt Go.RowKit
set_option linter.unusedVariables false
/-- A world behind the box of an instruction: nothing old has turned, the table of calls is as it was. -/
structure Kp (W v : World) : Prop where
  below : Below W.heap.size W v
  forms : Forms v
theorem Kp.next {W v v' : World} (h : Kp W v) (b : Below v.heap.size v v') : Kp W v' := ⟨h.below.trans (b.mono h.below.size), h.forms.below b⟩
theorem Kp.drew {W v : World} (h : Kp W v) : Kp W v.drew := ⟨⟨h.below.os, h.below.tape, h.below.output, h.below.size, h.below.block⟩, h.forms.below ⟨rfl, rfl, rfl, Nat.le_refl _, fun _ _ => rfl⟩⟩
set_option maxRecDepth 100000 in
set_option maxHeartbeats 2000000 in
theorem idx89_0 (a : Option Addr) (c : Nat) (w : World) : Calls Tryd.prog 115 #[.slice a 0 c, .func (.func 104) #[] #[]] w fun e w' => e = .returned (.int .i64 (-1)) ∧ w' = w := by
  go_enter Tryd.func115, Tryd.ntmps115
  go_wp2
  refine wp_loop_rounds 1 ?_
  rw [rounds_succ]
  go_wp2
  go_ret
  exact ⟨rfl, rfl⟩
theorem contains75_0 (a : Option Addr) (c : Nat) (w : World) : Calls Tryd.prog 103 #[.slice a 0 c, .func (.func 104) #[] #[]] w fun e w' => e = .returned (.bool false) ∧ w' = w := by
  have h := idx89_0 a c w
  go_enter Tryd.func103, Tryd.ntmps103
  go_wp2_with (go_at_call 115; refine h.mono ?_; rintro e w' ⟨rfl, hw⟩; subst w')
  go_ret
  exact ⟨rfl, rfl⟩
set_option maxRecDepth 100000 in
set_option maxHeartbeats 4000000 in
theorem good61 (o d a b c x : Int) (w : World) (G : Forms w) (x0 : 0 ≤ x) (x1 : x < 4294967296) : Calls Tryd.prog 75 #[.agg #[.int .i64 o, .int .i64 d, .int .i64 a, .int .i64 b, .int .i64 c, .int .u32 x]] w fun e w' => e = .returned (.bool (callOk a b c x)) ∧ Below w.heap.size w w' := by
  have h65 : ∀ v, Forms v → Calls Tryd.prog 102 #[.int .u32 x] v fun e w' => e = .returned (.string (calW x)) ∧ Below v.heap.size v w' := fun v g => call65 x v g x0 x1
  have h64 : ∀ v, Forms v → Calls Tryd.prog 101 #[.string (calW x)] v fun e w' => e = .returned (.int .i64 (ar (calW x))) ∧ Below v.heap.size v w' := fun v g => arity64 (calW x) v g
  have h60 : ∀ v, Calls Tryd.prog 41 #[.int .u32 x] v fun e w' => e = .returned (.int .i64 (x % 4)) ∧ w' = v := fun v => kind60 x v x0 x1
  have hr := ar_le (calW x)
  have hk : 0 ≤ x % 4 ∧ x % 4 < 4 := by omega
  have BW : Below w.heap.size w (w.alloc (.cells #[.int .i64 o, .int .i64 d, .int .i64 a, .int .i64 b, .int .i64 c, .int .u32 x] 35)) := (Below.refl _ _).alloc (Nat.le_refl _) _
  have KW : Kp (w.alloc (.cells #[.int .i64 o, .int .i64 d, .int .i64 a, .int .i64 b, .int .i64 c, .int .u32 x] 35)) (w.alloc (.cells #[.int .i64 o, .int .i64 d, .int .i64 a, .int .i64 b, .int .i64 c, .int .u32 x] 35)) := ⟨Below.refl _ _, G.below BW⟩
  have c5 : (w.alloc (.cells #[.int .i64 o, .int .i64 d, .int .i64 a, .int .i64 b, .int .i64 c, .int .u32 x] 35)).cell? ⟨w.heap.size, 5, none⟩ = some (.int .u32 x) := by simp
  have c2 : (w.alloc (.cells #[.int .i64 o, .int .i64 d, .int .i64 a, .int .i64 b, .int .i64 c, .int .u32 x] 35)).cell? ⟨w.heap.size, 2, none⟩ = some (.int .i64 a) := by simp
  have c3 : (w.alloc (.cells #[.int .i64 o, .int .i64 d, .int .i64 a, .int .i64 b, .int .i64 c, .int .u32 x] 35)).cell? ⟨w.heap.size, 3, none⟩ = some (.int .i64 b) := by simp
  have c4 : (w.alloc (.cells #[.int .i64 o, .int .i64 d, .int .i64 a, .int .i64 b, .int .i64 c, .int .u32 x] 35)).cell? ⟨w.heap.size, 4, none⟩ = some (.int .i64 c) := by simp
  have ql : w.heap.size < (w.alloc (.cells #[.int .i64 o, .int .i64 d, .int .i64 a, .int .i64 b, .int .i64 c, .int .u32 x] 35)).heap.size := by simp
  have HB : Hid (∀ v, Below (w.alloc (.cells #[.int .i64 o, .int .i64 d, .int .i64 a, .int .i64 b, .int .i64 c, .int .u32 x] 35)).heap.size (w.alloc (.cells #[.int .i64 o, .int .i64 d, .int .i64 a, .int .i64 b, .int .i64 c, .int .u32 x] 35)) v → Below w.heap.size w v) := fun v k => BW.trans (k.mono BW.size)
  clear BW G
  unfold callOk
  generalize ar (calW x) = R at h64 hr ⊢
  generalize x % 4 = K at h60 hk ⊢
  generalize calW x = cw at h64 h65
  clear x0 x1
  have HR : Hid (-1 ≤ R ∧ R ≤ 3) := hr
  have HK : Hid (0 ≤ K ∧ K < 4) := hk
  clear hr hk
  go_enter Tryd.func75, Tryd.ntmps75
  go_upto_region 1 with fail
  obtain ⟨q, hq⟩ : ∃ q, w.heap.size = q := ⟨_, rfl⟩
  obtain ⟨W, hW⟩ : ∃ W, w.alloc (.cells #[.int .i64 o, .int .i64 d, .int .i64 a, .int .i64 b, .int .i64 c, .int .u32 x] 35) = W := ⟨_, rfl⟩
  rw [hW] at KW c5 c2 c3 c4 ql HB ⊢
  rw [hq] at c5 c2 c3 c4 ql ⊢
  go_cut [3, 4] (fun r k wx => r = .int .i64 R ∧ k = .int .i64 K ∧ Kp W wx)
  case first =>
    have c5d : W.drew.cell? ⟨q, 5, none⟩ = some (.int .u32 x) := c5
    have KWd := KW.drew
    go_region_held3 (fun v => v.cell? ⟨q, 5, none⟩ = some (.int .u32 x) ∧ Kp W v) (first | with_reducible exact ⟨s4, k4⟩ | with_reducible exact ⟨s5, k5⟩ | with_reducible exact ⟨c5, KW⟩ | with_reducible exact ⟨c5d, KWd⟩ | (go_keep; done)) (first | (go_at_call 102; (have hh := ‹World.cell? _ ⟨q, 5, none⟩ = some (.int .u32 x) ∧ _›); refine (h65 _ hh.2.forms).mono ?_; rintro e w5 ⟨rfl, b5⟩; (have s5 := (b5.cell (p := ⟨q, 5, none⟩) (World.block_lt_of_cell? _ ⟨q, 5, none⟩ hh.1)).trans hh.1); (have k5 := hh.2.next b5)) | (go_at_call 101; (have hh := ‹World.cell? _ ⟨q, 5, none⟩ = some (.int .u32 x) ∧ _›); refine (h64 _ hh.2.forms).mono ?_; rintro e w4 ⟨rfl, b4⟩; (have s4 := (b4.cell (p := ⟨q, 5, none⟩) (World.block_lt_of_cell? _ ⟨q, 5, none⟩ hh.1)).trans hh.1); (have k4 := hh.2.next b4)) | (go_at_call 41; refine (h60 _).mono ?_; rintro e w6 ⟨rfl, hw⟩; subst w6))
    all_goals
      go_wp2_with fail
      go_meet
      case rel => exact ⟨rfl, rfl, k4⟩
  case rest =>
    obtain ⟨rfl, rfl, kk⟩ := hcut
    have bb := kk.below
    clear KW kk
    have HW : Hid (Below W.heap.size W wc) := bb
    have hr := HR.out
    have hk := HK.out
    by_cases r1 : R < 1
    · have HP : Hid ((decide (1 ≤ R) && (K == 1 || K == 2) && (decide (1 < R) || b == 0) && (decide (2 < R) || c == 0)) = false) := by show _ = _; rw [decide_eq_false (show ¬ 1 ≤ R by omega)]; simp
      clear hr hk bb
      go_wp2
      go_ret
      exact ⟨by first | (rw [HP.out]; done) | (simp; omega), (by first | exact HB.out _ HW.out | (rw [← hq]; exact HB.out _ HW.out))⟩
    have r1' : ¬ R < 1 := r1
    have v2 := (bb.cell (p := ⟨q, 2, none⟩) ql).trans c2
    have v3 := (bb.cell (p := ⟨q, 3, none⟩) ql).trans c3
    have v4 := (bb.cell (p := ⟨q, 4, none⟩) ql).trans c4
    clear c2 c3 c4 c5 bb
    by_cases e0 : K = 0
    · subst e0
      clear hr hk
      go_wp2
      go_ret
      exact ⟨by simp, (by first | exact HB.out _ HW.out | (rw [← hq]; exact HB.out _ HW.out))⟩
    by_cases e3 : K = 3
    · subst e3
      clear hr hk
      go_wp2
      go_ret
      exact ⟨by simp, (by first | exact HB.out _ HW.out | (rw [← hq]; exact HB.out _ HW.out))⟩
    by_cases e11 : K = 1 ∧ R = 1
    · obtain ⟨rfl, rfl⟩ := e11
      clear hr hk r1 r1'
      go_wp2_with (go_at_call 103; refine (contains75 _ 1 2 _ (fun i => if i = 0 then b else c) _ (by decide) (fun i hi => by rcases (by omega : i = 0 ∨ i = 1) with rfl | rfl <;> simp)).mono ?_; rintro e w7 ⟨rfl, hw⟩; subst w7)
      go_ret
      exact ⟨by simp [anyNZ]; try (cases (b == 0) <;> cases (c == 0) <;> rfl), (by first | exact HB.out _ (HW.out.alloc HW.out.size _) | (rw [← hq]; exact HB.out _ (HW.out.alloc HW.out.size _)))⟩
    by_cases e12 : K = 1 ∧ R = 2
    · obtain ⟨rfl, rfl⟩ := e12
      clear hr hk r1 r1'
      go_wp2_with (go_at_call 103; refine (contains75 _ 2 1 _ (fun i => c) _ (by decide) (fun i hi => by obtain rfl : i = 0 := (by omega); simp)).mono ?_; rintro e w7 ⟨rfl, hw⟩; subst w7)
      go_ret
      exact ⟨by simp [anyNZ]; try (cases (b == 0) <;> cases (c == 0) <;> rfl), (by first | exact HB.out _ (HW.out.alloc HW.out.size _) | (rw [← hq]; exact HB.out _ (HW.out.alloc HW.out.size _)))⟩
    by_cases e13 : K = 1 ∧ R = 3
    · obtain ⟨rfl, rfl⟩ := e13
      clear hr hk r1 r1'
      go_wp2_with (go_at_call 103; refine (contains75_0 _ _ _).mono ?_; rintro e w7 ⟨rfl, hw⟩; subst w7)
      go_ret
      exact ⟨by simp, (by first | exact HB.out _ (HW.out.alloc HW.out.size _) | (rw [← hq]; exact HB.out _ (HW.out.alloc HW.out.size _)))⟩
    by_cases e21 : K = 2 ∧ R = 1
    · obtain ⟨rfl, rfl⟩ := e21
      clear hr hk r1 r1'
      go_wp2_with (go_at_call 103; refine (contains75 _ 1 2 _ (fun i => if i = 0 then b else c) _ (by decide) (fun i hi => by rcases (by omega : i = 0 ∨ i = 1) with rfl | rfl <;> simp)).mono ?_; rintro e w7 ⟨rfl, hw⟩; subst w7)
      go_ret
      exact ⟨by simp [anyNZ]; try (cases (b == 0) <;> cases (c == 0) <;> rfl), (by first | exact HB.out _ (HW.out.alloc HW.out.size _) | (rw [← hq]; exact HB.out _ (HW.out.alloc HW.out.size _)))⟩
    by_cases e22 : K = 2 ∧ R = 2
    · obtain ⟨rfl, rfl⟩ := e22
      clear hr hk r1 r1'
      go_wp2_with (go_at_call 103; refine (contains75 _ 2 1 _ (fun i => c) _ (by decide) (fun i hi => by obtain rfl : i = 0 := (by omega); simp)).mono ?_; rintro e w7 ⟨rfl, hw⟩; subst w7)
      go_ret
      exact ⟨by simp [anyNZ]; try (cases (b == 0) <;> cases (c == 0) <;> rfl), (by first | exact HB.out _ (HW.out.alloc HW.out.size _) | (rw [← hq]; exact HB.out _ (HW.out.alloc HW.out.size _)))⟩
    by_cases e23 : K = 2 ∧ R = 3
    · obtain ⟨rfl, rfl⟩ := e23
      clear hr hk r1 r1'
      go_wp2_with (go_at_call 103; refine (contains75_0 _ _ _).mono ?_; rintro e w7 ⟨rfl, hw⟩; subst w7)
      go_ret
      exact ⟨by simp, (by first | exact HB.out _ (HW.out.alloc HW.out.size _) | (rw [← hq]; exact HB.out _ (HW.out.alloc HW.out.size _)))⟩
    omega
end Go.Proofs.YtcgapochcahknaaDoor
