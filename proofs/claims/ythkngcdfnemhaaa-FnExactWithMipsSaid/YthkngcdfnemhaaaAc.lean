/- PackColor of both sides: what it answers is in a block of its own. -/
import Derived.Test.YthkngcdfnemhaaaAb
namespace Go.Proofs.Ythkngcdfnemhaaa
open Go.ChangeShapes Go.WideShapes Go.ChangeAt Go.RowKit
set_option linter.unusedVariables false
theorem keepK (r g b a : Int) (w : World) : Hid (∀ w2, Below (w.alloc (.cells #[.int .i64 r, .int .i64 g, .int .i64 b, .int .i64 a] 25)).heap.size (w.alloc (.cells #[.int .i64 r, .int .i64 g, .int .i64 b, .int .i64 a] 25)) w2 → C4 w2 w.heap.size (.int .i64 r) (.int .i64 g) (.int .i64 b) (.int .i64 a) ∧ Below w.heap.size w w2) := fun w2 B1 => ⟨(C4.new w 25 _ _ _ _).next B1, (alloc_b).trans (B1.mono (by simp))⟩
set_option maxHeartbeats 4000000 in
theorem pack14 (f r g b a : Int) (w : World) : Calls Try.prog 14 #[.int .i64 f, .agg #[.int .i64 r, .int .i64 g, .int .i64 b, .int .i64 a]] w (Pkd w (pkC f r g b a)) := by
  have HC := keepK r g b a w
  cases hq : gdC r g b a
  · have HG : Hid (∀ w : World, Calls Try.prog 11 #[.agg #[.int .i64 r, .int .i64 g, .int .i64 b, .int .i64 a]] w fun e w' => e = .returned (.bool false) ∧ Below w.heap.size w w') := fun w => by rw [← hq]; exact good11 r g b a w
    have hp : pkC f r g b a = [] := by unfold pkC; rw [hq]; rfl
    rw [hp]
    clear hp hq
    go_enter Try.func14, Try.ntmps14
    go_wp2_with (go_at_call 11; refine (HG.out _).mono ?_; rintro e w2 ⟨rfl, B1⟩; (obtain ⟨C2, B2⟩ := HC.out w2 B1); (have c0 := C2.c0); (have c1 := C2.c1); (have c2 := C2.c2); (have c3 := C2.c3))
    go_ret
    exact ⟨_, rfl, Or.inl ⟨rfl, rfl⟩, B2⟩

  have HG : Hid (∀ w : World, Calls Try.prog 11 #[.agg #[.int .i64 r, .int .i64 g, .int .i64 b, .int .i64 a]] w fun e w' => e = .returned (.bool true) ∧ Below w.heap.size w w') := fun w => by rw [← hq]; exact good11 r g b a w
  have hp : pkC f r g b a = pk f r g b a := by unfold pkC; rw [hq]; rfl
  rw [hp]
  obtain ⟨⟨r0, r1⟩, ⟨g0, g1⟩, ⟨b0, b1⟩, a0, a1⟩ := gdC_iff.1 hq
  clear hp hq
  unfold pk
  by_cases h1 : f = 1
  · subst h1
    rw [if_pos rfl]
    go_enter Try.func14, Try.ntmps14
    go_wp2_with (go_at_call 11; refine (HG.out _).mono ?_; rintro e w2 ⟨rfl, B1⟩; (obtain ⟨C2, B2⟩ := HC.out w2 B1); (have c0 := C2.c0); (have c1 := C2.c1); (have c2 := C2.c2); (have c3 := C2.c3))
    go_ret
    exact pkd_new w _ 5 B2 [_] _ (by simp) _ rfl

  rw [if_neg h1]
  by_cases h2 : f = 2
  · subst h2
    rw [if_pos rfl]
    go_enter Try.func14, Try.ntmps14
    go_wp2_with (go_at_call 11; refine (HG.out _).mono ?_; rintro e w2 ⟨rfl, B1⟩; (obtain ⟨C2, B2⟩ := HC.out w2 B1); (have c0 := C2.c0); (have c1 := C2.c1); (have c2 := C2.c2); (have c3 := C2.c3))
    go_ret
    exact pkd_new w _ 5 B2 [_, _, _, _] _ (by simp) _ rfl

  rw [if_neg h2]
  by_cases h3 : f = 3
  · subst h3
    rw [if_pos rfl]
    obtain ⟨X, hX⟩ : ∃ X, (r * 31 + 127) / 255 = X := ⟨_, rfl⟩
    obtain ⟨Y, hY⟩ : ∃ X, (g * 63 + 127) / 255 = X := ⟨_, rfl⟩
    obtain ⟨Z, hZ⟩ : ∃ X, (b * 31 + 127) / 255 = X := ⟨_, rfl⟩
    have hs : shN r g b = X * 2048 + Y * 32 + Z := by unfold shN; rw [hX, hY, hZ]
    rw [hs]
    have hX0 : 0 ≤ X := by omega
    have hX1 : X ≤ 31 := by omega
    have hY0 : 0 ≤ Y := by omega
    have hY1 : Y ≤ 63 := by omega
    have hZ0 : 0 ≤ Z := by omega
    have hZ1 : Z ≤ 31 := by omega
    have t1 : (r * 31 + 127).tdiv 255 = X := by rw [← hX]; exact Int.tdiv_eq_ediv_of_nonneg (by omega)
    have t2 : (g * 63 + 127).tdiv 255 = Y := by rw [← hY]; exact Int.tdiv_eq_ediv_of_nonneg (by omega)
    have t3 : (b * 31 + 127).tdiv 255 = Z := by rw [← hZ]; exact Int.tdiv_eq_ediv_of_nonneg (by omega)
    clear hX hY hZ hs
    go_enter Try.func14, Try.ntmps14
    go_wp2_with (go_at_call 11; refine (HG.out _).mono ?_; rintro e w2 ⟨rfl, B1⟩; (obtain ⟨C2, B2⟩ := HC.out w2 B1); (have c0 := C2.c0); (have c1 := C2.c1); (have c2 := C2.c2); (have c3 := C2.c3))
    go_ret
    exact pkd_new w _ 5 B2 [_, _] _ (by simp) _ rfl

  rw [if_neg h3]
  go_enter Try.func14, Try.ntmps14
  go_wp2_with (go_at_call 11; refine (HG.out _).mono ?_; rintro e w2 ⟨rfl, B1⟩; (obtain ⟨C2, B2⟩ := HC.out w2 B1); (have c0 := C2.c0); (have c1 := C2.c1); (have c2 := C2.c2); (have c3 := C2.c3))
  go_ret
  exact ⟨_, rfl, Or.inl ⟨rfl, rfl⟩, B2⟩

set_option maxHeartbeats 4000000 in
theorem pack15 (f r g b a : Int) (w : World) : Calls Try.prog 15 #[.int .i64 f, .agg #[.int .i64 r, .int .i64 g, .int .i64 b, .int .i64 a]] w (Pkd w (pkC f r g b a)) := by
  have HC := keepK r g b a w
  by_cases h1 : f = 1
  · subst h1
    have hm : ∀ w : World, (method 233 98 (Value.agg #[]) "loop.example/g00053/impl.pack").run Try.prog w = .ok (105, .agg #[]) w := fun w => by kernel_rfl
    have HF : Hid (∀ w : World, Calls Try.prog 43 #[.int .i64 1] w fun e w' => e = .returned (.tuple #[.iface 98 (.agg #[]), .bool true]) ∧ w' = w) := fun w => fmt43 1 w
    cases hq : gdC r g b a
    · have HG : Hid (∀ w : World, Calls Try.prog 13 #[.agg #[.int .i64 r, .int .i64 g, .int .i64 b, .int .i64 a]] w fun e w' => e = .returned (.bool false) ∧ Below w.heap.size w w') := fun w => by rw [← hq]; exact good13 r g b a w
      have hp : pkC 1 r g b a = [] := by unfold pkC; rw [hq]; rfl
      rw [hp]
      clear hp hq
      go_enter Try.func15, Try.ntmps15
      go_wp2_with (first | (go_at_call 43; refine (HF.out _).mono ?_; rintro e w2 ⟨rfl, hw⟩; subst w2) | (go_at_call 13; refine (HG.out _).mono ?_; rintro e w2 ⟨rfl, B1⟩))
      go_ret
      exact ⟨_, rfl, Or.inl ⟨rfl, rfl⟩, (alloc_b).trans (B1.mono (by simp))⟩
    · have HG : Hid (∀ w : World, Calls Try.prog 13 #[.agg #[.int .i64 r, .int .i64 g, .int .i64 b, .int .i64 a]] w fun e w' => e = .returned (.bool true) ∧ Below w.heap.size w w') := fun w => by rw [← hq]; exact good13 r g b a w
      have HP : Hid (∀ w : World, Calls Try.prog 105 #[.agg #[], .agg #[.int .i64 r, .int .i64 g, .int .i64 b, .int .i64 a]] w (Pkd w (pkC 1 r g b a))) := fun w => by unfold pkC; rw [hq]; exact grey104 r g b a w hq
      have hl : (pkC 1 r g b a) = (pkC 1 r g b a) := rfl
      generalize pkC 1 r g b a = L at HP ⊢
      clear hl hq
      go_enter Try.func15, Try.ntmps15
      go_wp2_with (first | (go_at_call 43; refine (HF.out _).mono ?_; rintro e w2 ⟨rfl, hw⟩; subst w2) | (go_at_call 13; refine (HG.out _).mono ?_; rintro e w2 ⟨rfl, B1⟩; (obtain ⟨C2, B2⟩ := HC.out w2 B1); (have c0 := C2.c0); (have c1 := C2.c1); (have c2 := C2.c2); (have c3 := C2.c3)) | (go_at_call 105; refine (HP.out _).mono ?_; rintro e w3 ⟨v3, rfl, O3, B3⟩))
      go_ret
      exact ⟨_, rfl, O3.low (by have := B2.size; omega), B2.trans (B3.mono B2.size)⟩

  by_cases h2 : f = 2
  · subst h2
    have hm : ∀ w : World, (method 233 99 (Value.agg #[]) "loop.example/g00053/impl.pack").run Try.prog w = .ok (109, .agg #[]) w := fun w => by kernel_rfl
    have HF : Hid (∀ w : World, Calls Try.prog 43 #[.int .i64 2] w fun e w' => e = .returned (.tuple #[.iface 99 (.agg #[]), .bool true]) ∧ w' = w) := fun w => fmt43 2 w
    cases hq : gdC r g b a
    · have HG : Hid (∀ w : World, Calls Try.prog 13 #[.agg #[.int .i64 r, .int .i64 g, .int .i64 b, .int .i64 a]] w fun e w' => e = .returned (.bool false) ∧ Below w.heap.size w w') := fun w => by rw [← hq]; exact good13 r g b a w
      have hp : pkC 2 r g b a = [] := by unfold pkC; rw [hq]; rfl
      rw [hp]
      clear hp hq
      go_enter Try.func15, Try.ntmps15
      go_wp2_with (first | (go_at_call 43; refine (HF.out _).mono ?_; rintro e w2 ⟨rfl, hw⟩; subst w2) | (go_at_call 13; refine (HG.out _).mono ?_; rintro e w2 ⟨rfl, B1⟩))
      go_ret
      exact ⟨_, rfl, Or.inl ⟨rfl, rfl⟩, (alloc_b).trans (B1.mono (by simp))⟩
    · have HG : Hid (∀ w : World, Calls Try.prog 13 #[.agg #[.int .i64 r, .int .i64 g, .int .i64 b, .int .i64 a]] w fun e w' => e = .returned (.bool true) ∧ Below w.heap.size w w') := fun w => by rw [← hq]; exact good13 r g b a w
      have HP : Hid (∀ w : World, Calls Try.prog 109 #[.agg #[], .agg #[.int .i64 r, .int .i64 g, .int .i64 b, .int .i64 a]] w (Pkd w (pkC 2 r g b a))) := fun w => by unfold pkC; rw [hq]; exact full108 r g b a w hq
      have hl : (pkC 2 r g b a) = (pkC 2 r g b a) := rfl
      generalize pkC 2 r g b a = L at HP ⊢
      clear hl hq
      go_enter Try.func15, Try.ntmps15
      go_wp2_with (first | (go_at_call 43; refine (HF.out _).mono ?_; rintro e w2 ⟨rfl, hw⟩; subst w2) | (go_at_call 13; refine (HG.out _).mono ?_; rintro e w2 ⟨rfl, B1⟩; (obtain ⟨C2, B2⟩ := HC.out w2 B1); (have c0 := C2.c0); (have c1 := C2.c1); (have c2 := C2.c2); (have c3 := C2.c3)) | (go_at_call 109; refine (HP.out _).mono ?_; rintro e w3 ⟨v3, rfl, O3, B3⟩))
      go_ret
      exact ⟨_, rfl, O3.low (by have := B2.size; omega), B2.trans (B3.mono B2.size)⟩

  by_cases h3 : f = 3
  · subst h3
    have hm : ∀ w : World, (method 233 100 (Value.agg #[]) "loop.example/g00053/impl.pack").run Try.prog w = .ok (112, .agg #[]) w := fun w => by kernel_rfl
    have HF : Hid (∀ w : World, Calls Try.prog 43 #[.int .i64 3] w fun e w' => e = .returned (.tuple #[.iface 100 (.agg #[]), .bool true]) ∧ w' = w) := fun w => fmt43 3 w
    cases hq : gdC r g b a
    · have HG : Hid (∀ w : World, Calls Try.prog 13 #[.agg #[.int .i64 r, .int .i64 g, .int .i64 b, .int .i64 a]] w fun e w' => e = .returned (.bool false) ∧ Below w.heap.size w w') := fun w => by rw [← hq]; exact good13 r g b a w
      have hp : pkC 3 r g b a = [] := by unfold pkC; rw [hq]; rfl
      rw [hp]
      clear hp hq
      go_enter Try.func15, Try.ntmps15
      go_wp2_with (first | (go_at_call 43; refine (HF.out _).mono ?_; rintro e w2 ⟨rfl, hw⟩; subst w2) | (go_at_call 13; refine (HG.out _).mono ?_; rintro e w2 ⟨rfl, B1⟩))
      go_ret
      exact ⟨_, rfl, Or.inl ⟨rfl, rfl⟩, (alloc_b).trans (B1.mono (by simp))⟩
    · have HG : Hid (∀ w : World, Calls Try.prog 13 #[.agg #[.int .i64 r, .int .i64 g, .int .i64 b, .int .i64 a]] w fun e w' => e = .returned (.bool true) ∧ Below w.heap.size w w') := fun w => by rw [← hq]; exact good13 r g b a w
      have HP : Hid (∀ w : World, Calls Try.prog 112 #[.agg #[], .agg #[.int .i64 r, .int .i64 g, .int .i64 b, .int .i64 a]] w (Pkd w (pkC 3 r g b a))) := fun w => by unfold pkC; rw [hq]; exact short111 r g b a w hq
      have hl : (pkC 3 r g b a) = (pkC 3 r g b a) := rfl
      generalize pkC 3 r g b a = L at HP ⊢
      clear hl hq
      go_enter Try.func15, Try.ntmps15
      go_wp2_with (first | (go_at_call 43; refine (HF.out _).mono ?_; rintro e w2 ⟨rfl, hw⟩; subst w2) | (go_at_call 13; refine (HG.out _).mono ?_; rintro e w2 ⟨rfl, B1⟩; (obtain ⟨C2, B2⟩ := HC.out w2 B1); (have c0 := C2.c0); (have c1 := C2.c1); (have c2 := C2.c2); (have c3 := C2.c3)) | (go_at_call 112; refine (HP.out _).mono ?_; rintro e w3 ⟨v3, rfl, O3, B3⟩))
      go_ret
      exact ⟨_, rfl, O3.low (by have := B2.size; omega), B2.trans (B3.mono B2.size)⟩

  have HF : Hid (∀ w : World, Calls Try.prog 43 #[.int .i64 f] w fun e w' => e = .returned (.tuple #[.nilIface, .bool false]) ∧ w' = w) := fun w => by
    have hv : fmV f = .nilIface := by unfold fmV; rw [if_neg h1, if_neg h2, if_neg h3]
    have hb : fmB f = false := by unfold fmB; rw [decide_eq_false h1, decide_eq_false h2, decide_eq_false h3]; rfl
    have := fmt43 f w
    rwa [hv, hb] at this
  have hp : pkC f r g b a = [] := by unfold pkC pk; rw [if_neg h1, if_neg h2, if_neg h3]; split <;> rfl
  rw [hp]
  clear hp
  go_enter Try.func15, Try.ntmps15
  go_wp2_with (go_at_call 43; refine (HF.out _).mono ?_; rintro e w2 ⟨rfl, hw⟩; subst w2)
  go_ret
  exact ⟨_, rfl, Or.inl ⟨rfl, rfl⟩, alloc_b⟩
end Go.Proofs.Ythkngcdfnemhaaa
