/- UnpackColor of both sides. -/
import Derived.Test.YthkngcdfnemhaaaAd
namespace Go.Proofs.Ythkngcdfnemhaaa
open Go.ChangeShapes Go.WideShapes Go.ChangeAt Go.RowKit
set_option linter.unusedVariables false
/-- What UnpackColor answers true for. -/
def upB (f : Int) (n : Nat) : Bool := fmB f && decide (n = szF f)
theorem fm_cases (f : Int) : f = 1 ∨ f = 2 ∨ f = 3 ∨ (f ≠ 1 ∧ f ≠ 2 ∧ f ≠ 3) := by omega
theorem fm_no {f : Int} (h : f ≠ 1 ∧ f ≠ 2 ∧ f ≠ 3) : fmV f = .nilIface ∧ fmB f = false ∧ szF f = 0 := ⟨by unfold fmV; rw [if_neg h.1, if_neg h.2.1, if_neg h.2.2], by unfold fmB; rw [decide_eq_false h.1, decide_eq_false h.2.1, decide_eq_false h.2.2]; rfl, by unfold szF; rw [if_neg h.1, if_neg h.2.1, if_neg h.2.2]⟩
/-- What UnpackColor answers, of n bytes x. -/
def Upd (f : Int) (n : Nat) (x : Nat → Int) (w : World) (e : Ending) (w' : World) : Prop := e = .returned (.tuple #[if upB f n then .agg #[.int .i64 (u0 f x), .int .i64 (u1 f x), .int .i64 (u2 f x), .int .i64 (u3 f x)] else .agg #[.int .i64 0, .int .i64 0, .int .i64 0, .int .i64 0], .bool (upB f n)]) ∧ Below w.heap.size w w'
theorem upd_yes {f : Int} {n : Nat} {x : Nat → Int} {w : World} (h : upB f n = true) : Upd f n x w = fun e w' => e = .returned (.tuple #[.agg #[.int .i64 (u0 f x), .int .i64 (u1 f x), .int .i64 (u2 f x), .int .i64 (u3 f x)], .bool true]) ∧ Below w.heap.size w w' := by unfold Upd; rw [h]; rfl
theorem upd_no {f : Int} {n : Nat} {x : Nat → Int} {w : World} (h : upB f n = false) : Upd f n x w = fun e w' => e = .returned (.tuple #[.agg #[.int .i64 0, .int .i64 0, .int .i64 0, .int .i64 0], .bool false]) ∧ Below w.heap.size w w' := by unfold Upd; rw [h]; rfl
set_option maxHeartbeats 4000000 in
theorem unp19 (f : Int) (a : Option Addr) (n c : Nat) (x : Nat → Int) (w : World) (hn : n ≤ 1048576) (X : 0 < n → Bs8 w (.slice a n c) n x) : Calls Try.prog 19 #[.int .i64 f, .slice a n c] w (Upd f n x w) := by
  have HS : Hid (∀ w : World, Calls Try.prog 44 #[.int .i64 f] w fun e w' => e = .returned (.int .i64 (szF f)) ∧ w' = w) := fun w => size44 f w
  by_cases h0 : szF f = 0
  · have hu : upB f n = false := by
      unfold upB
      rcases fm_cases f with rfl | rfl | rfl | h
      · exact absurd h0 (by decide)
      · exact absurd h0 (by decide)
      · exact absurd h0 (by decide)
      · rw [(fm_no h).2.1]; rfl
    rw [upd_no hu]
    rw [h0] at HS
    clear h0 hu
    go_enter Try.func19, Try.ntmps19
    go_wp2_with (go_at_call 44; refine (HS.out _).mono ?_; rintro e w2 ⟨rfl, hw⟩; subst w2)
    exact bodyPost_ret (v := .tuple #[.agg #[.int .i64 0, .int .i64 0, .int .i64 0, .int .i64 0], .bool false]) (by simp [results, Try.results19, go_sem]) rfl ⟨rfl, alloc_b⟩
  have hf : f = 1 ∨ f = 2 ∨ f = 3 := by
    rcases fm_cases f with h | h | h | h
    · exact Or.inl h
    · exact Or.inr (Or.inl h)
    · exact Or.inr (Or.inr h)
    · exact absurd (fm_no h).2.2 h0
  have hfb : fmB f = true := by rcases hf with rfl | rfl | rfl <;> rfl
  by_cases h1 : n = szF f
  · have hu : upB f n = true := by unfold upB; rw [hfb, decide_eq_true h1]; rfl
    rw [upd_yes hu]
    have X' := X (by omega)
    rw [h1] at X'
    have HU : Hid (∀ w' : World, Below w.heap.size w w' → Calls Try.prog 45 #[.int .i64 f, .slice a (szF f) c] w' fun e w'' => e = .returned (.agg #[.int .i64 (u0 f x), .int .i64 (u1 f x), .int .i64 (u2 f x), .int .i64 (u3 f x)]) ∧ Below w'.heap.size w' w'') := fun w' b => unp45 f _ x w' hf (X'.next b)
    generalize u0 f x = A at HU ⊢
    generalize u1 f x = B at HU ⊢
    generalize u2 f x = C at HU ⊢
    generalize u3 f x = D at HU ⊢
    subst h1
    generalize szF f = s at *
    have hs : ¬ ((s : Int) = 0) := by omega
    clear hu X X' h0 hf hfb
    go_enter Try.func19, Try.ntmps19
    go_wp2_with (first | (go_at_call 44; refine (HS.out _).mono ?_; rintro e w2 ⟨rfl, hw⟩; subst w2) | (go_at_call 45; refine (HU.out _ alloc_b).mono ?_; rintro e w2 ⟨rfl, B2⟩; (have C2 := (C4.new w 25 (.int .i64 0) (.int .i64 0) (.int .i64 0) (.int .i64 0)).next B2); (have D2 : Below w.heap.size w w2 := alloc_b.trans (B2.mono (by simp))); (have q0 := C2.c0); (have q1 := C2.c1); (have q2 := C2.c2); (have q3 := C2.c3); (have qf := C2.f); (have qh := C2.hi)))
    clear q0 q1 q2 q3 qf qh
    have F0 := C2.put (.int .i64 A) (.int .i64 B) (.int .i64 C) (.int .i64 D)
    have BN : Below w.heap.size w (set4 w2 w.heap.size (.int .i64 A) (.int .i64 B) (.int .i64 C) (.int .i64 D)) := D2.trans ((only_set4 _ _ _ _ _ _).below (Nat.le_refl _) D2.size)
    unfold set4 at F0 BN
    have r0 := F0.c0
    have r1 := F0.c1
    have r2 := F0.c2
    have r3 := F0.c3
    clear F0
    exact bodyPost_ret (v := .tuple #[.agg #[.int .i64 A, .int .i64 B, .int .i64 C, .int .i64 D], .bool true]) (by simp [results, Try.results19, go_sem, r0, r1, r2, r3]) rfl ⟨rfl, BN⟩

  · have hu : upB f n = false := by unfold upB; rw [decide_eq_false h1, Bool.and_false]
    rw [upd_no hu]
    have hs : ¬ ((szF f : Int) = 0) := by omega
    have hs2 : ¬ ((n : Int) = (szF f : Int)) := by omega
    clear hu X h0 hf hfb h1
    generalize szF f = s at *
    have hb1 : ((s : Int) == 0) = false := by simpa using hs
    have hb2 : ((n : Int) != (s : Int)) = true := by simpa using hs2
    go_enter Try.func19, Try.ntmps19
    go_wp2_with (go_at_call 44; refine (HS.out _).mono ?_; rintro e w2 ⟨rfl, hw⟩; subst w2)
    exact bodyPost_ret (v := .tuple #[.agg #[.int .i64 0, .int .i64 0, .int .i64 0, .int .i64 0], .bool false]) (by simp [results, Try.results19, go_sem]) rfl ⟨rfl, alloc_b⟩
set_option maxHeartbeats 4000000 in
theorem unp21 (f : Int) (a : Option Addr) (n c : Nat) (x : Nat → Int) (w : World) (hn : n ≤ 1048576) (X : 0 < n → Bs8 w (.slice a n c) n x) : Calls Try.prog 21 #[.int .i64 f, .slice a n c] w (Upd f n x w) := by
  rcases fm_cases f with rfl | rfl | rfl | hf
  · have hm : ∀ w : World, (method 233 98 (Value.agg #[]) "loop.example/g00053/impl.size").run Try.prog w = .ok (106, .agg #[]) w := fun w => by kernel_rfl
    have HF : Hid (∀ w : World, Calls Try.prog 43 #[.int .i64 1] w fun e w' => e = .returned (.tuple #[.iface 98 (.agg #[]), .bool true]) ∧ w' = w) := fun w => fmt43 1 w
    have HS : Hid (∀ w : World, Calls Try.prog 106 #[.agg #[]] w fun e w' => e = .returned (.int .i64 1) ∧ Below w.heap.size w w') := fun w => size_g w
    by_cases h1 : n = 1
    · subst h1
      rw [upd_yes (by decide)]
      have X' : Bs8 w (.slice a 1 c) (szF 1) x := X (by decide)
      have HU : Hid (∀ w' : World, Below w.heap.size w w' → Calls Try.prog 46 #[.iface 98 (.agg #[]), .slice a 1 c] w' fun e w'' => e = .returned (.agg #[.int .i64 (u0 1 x), .int .i64 (u1 1 x), .int .i64 (u2 1 x), .int .i64 (u3 1 x)]) ∧ Below w'.heap.size w' w'') := fun w' b => unp46 1 _ x w' (by decide) (X'.next b)
      generalize u0 1 x = A at HU ⊢
      generalize u1 1 x = B at HU ⊢
      generalize u2 1 x = C at HU ⊢
      generalize u3 1 x = D at HU ⊢
      clear X X'
      go_enter Try.func21, Try.ntmps21
      go_wp2_with (first | (go_at_call 43; refine (HF.out _).mono ?_; rintro e w2 ⟨rfl, hw⟩; subst w2) | (go_at_call 106; refine (HS.out _).mono ?_; rintro e w1 ⟨rfl, B1⟩) | (go_at_call 46; refine (HU.out w1 (alloc_b.trans (B1.mono (by simp)))).mono ?_; rintro e w2 ⟨rfl, B2'⟩; (have B2 := B1.trans (B2'.mono B1.size)); (have C2 := (C4.new w 25 (.int .i64 0) (.int .i64 0) (.int .i64 0) (.int .i64 0)).next B2); (have D2 : Below w.heap.size w w2 := alloc_b.trans (B2.mono (by simp))); (have q0 := C2.c0); (have q1 := C2.c1); (have q2 := C2.c2); (have q3 := C2.c3); (have qf := C2.f); (have qh := C2.hi)))
      clear q0 q1 q2 q3 qf qh
      have F0 := C2.put (.int .i64 A) (.int .i64 B) (.int .i64 C) (.int .i64 D)
      have BN : Below w.heap.size w (set4 w2 w.heap.size (.int .i64 A) (.int .i64 B) (.int .i64 C) (.int .i64 D)) := D2.trans ((only_set4 _ _ _ _ _ _).below (Nat.le_refl _) D2.size)
      unfold set4 at F0 BN
      have r0 := F0.c0
      have r1 := F0.c1
      have r2 := F0.c2
      have r3 := F0.c3
      clear F0
      exact bodyPost_ret (v := .tuple #[.agg #[.int .i64 A, .int .i64 B, .int .i64 C, .int .i64 D], .bool true]) (by simp [results, Try.results21, go_sem, r0, r1, r2, r3]) rfl ⟨rfl, BN⟩

    · rw [upd_no (by unfold upB; rw [show szF 1 = 1 from rfl, decide_eq_false h1, Bool.and_false])]
      have hs2 : ¬ ((n : Int) = 1) := by omega
      clear X h1
      go_enter Try.func21, Try.ntmps21
      go_wp2_with (first | (go_at_call 43; refine (HF.out _).mono ?_; rintro e w2 ⟨rfl, hw⟩; subst w2) | (go_at_call 106; refine (HS.out _).mono ?_; rintro e w2 ⟨rfl, B2⟩; (have C2 := (C4.new w 25 (.int .i64 0) (.int .i64 0) (.int .i64 0) (.int .i64 0)).next B2); (have D2 : Below w.heap.size w w2 := alloc_b.trans (B2.mono (by simp))); (have q0 := C2.c0); (have q1 := C2.c1); (have q2 := C2.c2); (have q3 := C2.c3); (have qf := C2.f); (have qh := C2.hi)))
      have F0 := C2.put (.int .i64 0) (.int .i64 0) (.int .i64 0) (.int .i64 0)
      have BN : Below w.heap.size w (set4 w2 w.heap.size (.int .i64 0) (.int .i64 0) (.int .i64 0) (.int .i64 0)) := D2.trans ((only_set4 _ _ _ _ _ _).below (Nat.le_refl _) D2.size)
      unfold set4 at F0 BN
      have r0 := F0.c0
      have r1 := F0.c1
      have r2 := F0.c2
      have r3 := F0.c3
      clear F0 q0 q1 q2 q3 qf qh
      exact bodyPost_ret (v := .tuple #[.agg #[.int .i64 0, .int .i64 0, .int .i64 0, .int .i64 0], .bool false]) (by simp [results, Try.results21, go_sem, r0, r1, r2, r3]) rfl ⟨rfl, BN⟩
  · have hm : ∀ w : World, (method 233 99 (Value.agg #[]) "loop.example/g00053/impl.size").run Try.prog w = .ok (110, .agg #[]) w := fun w => by kernel_rfl
    have HF : Hid (∀ w : World, Calls Try.prog 43 #[.int .i64 2] w fun e w' => e = .returned (.tuple #[.iface 99 (.agg #[]), .bool true]) ∧ w' = w) := fun w => fmt43 2 w
    have HS : Hid (∀ w : World, Calls Try.prog 110 #[.agg #[]] w fun e w' => e = .returned (.int .i64 4) ∧ Below w.heap.size w w') := fun w => size_f w
    by_cases h1 : n = 4
    · subst h1
      rw [upd_yes (by decide)]
      have X' : Bs8 w (.slice a 4 c) (szF 2) x := X (by decide)
      have HU : Hid (∀ w' : World, Below w.heap.size w w' → Calls Try.prog 46 #[.iface 99 (.agg #[]), .slice a 4 c] w' fun e w'' => e = .returned (.agg #[.int .i64 (u0 2 x), .int .i64 (u1 2 x), .int .i64 (u2 2 x), .int .i64 (u3 2 x)]) ∧ Below w'.heap.size w' w'') := fun w' b => unp46 2 _ x w' (by decide) (X'.next b)
      generalize u0 2 x = A at HU ⊢
      generalize u1 2 x = B at HU ⊢
      generalize u2 2 x = C at HU ⊢
      generalize u3 2 x = D at HU ⊢
      clear X X'
      go_enter Try.func21, Try.ntmps21
      go_wp2_with (first | (go_at_call 43; refine (HF.out _).mono ?_; rintro e w2 ⟨rfl, hw⟩; subst w2) | (go_at_call 110; refine (HS.out _).mono ?_; rintro e w1 ⟨rfl, B1⟩) | (go_at_call 46; refine (HU.out w1 (alloc_b.trans (B1.mono (by simp)))).mono ?_; rintro e w2 ⟨rfl, B2'⟩; (have B2 := B1.trans (B2'.mono B1.size)); (have C2 := (C4.new w 25 (.int .i64 0) (.int .i64 0) (.int .i64 0) (.int .i64 0)).next B2); (have D2 : Below w.heap.size w w2 := alloc_b.trans (B2.mono (by simp))); (have q0 := C2.c0); (have q1 := C2.c1); (have q2 := C2.c2); (have q3 := C2.c3); (have qf := C2.f); (have qh := C2.hi)))
      clear q0 q1 q2 q3 qf qh
      have F0 := C2.put (.int .i64 A) (.int .i64 B) (.int .i64 C) (.int .i64 D)
      have BN : Below w.heap.size w (set4 w2 w.heap.size (.int .i64 A) (.int .i64 B) (.int .i64 C) (.int .i64 D)) := D2.trans ((only_set4 _ _ _ _ _ _).below (Nat.le_refl _) D2.size)
      unfold set4 at F0 BN
      have r0 := F0.c0
      have r1 := F0.c1
      have r2 := F0.c2
      have r3 := F0.c3
      clear F0
      exact bodyPost_ret (v := .tuple #[.agg #[.int .i64 A, .int .i64 B, .int .i64 C, .int .i64 D], .bool true]) (by simp [results, Try.results21, go_sem, r0, r1, r2, r3]) rfl ⟨rfl, BN⟩

    · rw [upd_no (by unfold upB; rw [show szF 2 = 4 from rfl, decide_eq_false h1, Bool.and_false])]
      have hs2 : ¬ ((n : Int) = 4) := by omega
      clear X h1
      go_enter Try.func21, Try.ntmps21
      go_wp2_with (first | (go_at_call 43; refine (HF.out _).mono ?_; rintro e w2 ⟨rfl, hw⟩; subst w2) | (go_at_call 110; refine (HS.out _).mono ?_; rintro e w2 ⟨rfl, B2⟩; (have C2 := (C4.new w 25 (.int .i64 0) (.int .i64 0) (.int .i64 0) (.int .i64 0)).next B2); (have D2 : Below w.heap.size w w2 := alloc_b.trans (B2.mono (by simp))); (have q0 := C2.c0); (have q1 := C2.c1); (have q2 := C2.c2); (have q3 := C2.c3); (have qf := C2.f); (have qh := C2.hi)))
      have F0 := C2.put (.int .i64 0) (.int .i64 0) (.int .i64 0) (.int .i64 0)
      have BN : Below w.heap.size w (set4 w2 w.heap.size (.int .i64 0) (.int .i64 0) (.int .i64 0) (.int .i64 0)) := D2.trans ((only_set4 _ _ _ _ _ _).below (Nat.le_refl _) D2.size)
      unfold set4 at F0 BN
      have r0 := F0.c0
      have r1 := F0.c1
      have r2 := F0.c2
      have r3 := F0.c3
      clear F0 q0 q1 q2 q3 qf qh
      exact bodyPost_ret (v := .tuple #[.agg #[.int .i64 0, .int .i64 0, .int .i64 0, .int .i64 0], .bool false]) (by simp [results, Try.results21, go_sem, r0, r1, r2, r3]) rfl ⟨rfl, BN⟩
  · have hm : ∀ w : World, (method 233 100 (Value.agg #[]) "loop.example/g00053/impl.size").run Try.prog w = .ok (113, .agg #[]) w := fun w => by kernel_rfl
    have HF : Hid (∀ w : World, Calls Try.prog 43 #[.int .i64 3] w fun e w' => e = .returned (.tuple #[.iface 100 (.agg #[]), .bool true]) ∧ w' = w) := fun w => fmt43 3 w
    have HS : Hid (∀ w : World, Calls Try.prog 113 #[.agg #[]] w fun e w' => e = .returned (.int .i64 2) ∧ Below w.heap.size w w') := fun w => size_s w
    by_cases h1 : n = 2
    · subst h1
      rw [upd_yes (by decide)]
      have X' : Bs8 w (.slice a 2 c) (szF 3) x := X (by decide)
      have HU : Hid (∀ w' : World, Below w.heap.size w w' → Calls Try.prog 46 #[.iface 100 (.agg #[]), .slice a 2 c] w' fun e w'' => e = .returned (.agg #[.int .i64 (u0 3 x), .int .i64 (u1 3 x), .int .i64 (u2 3 x), .int .i64 (u3 3 x)]) ∧ Below w'.heap.size w' w'') := fun w' b => unp46 3 _ x w' (by decide) (X'.next b)
      generalize u0 3 x = A at HU ⊢
      generalize u1 3 x = B at HU ⊢
      generalize u2 3 x = C at HU ⊢
      generalize u3 3 x = D at HU ⊢
      clear X X'
      go_enter Try.func21, Try.ntmps21
      go_wp2_with (first | (go_at_call 43; refine (HF.out _).mono ?_; rintro e w2 ⟨rfl, hw⟩; subst w2) | (go_at_call 113; refine (HS.out _).mono ?_; rintro e w1 ⟨rfl, B1⟩) | (go_at_call 46; refine (HU.out w1 (alloc_b.trans (B1.mono (by simp)))).mono ?_; rintro e w2 ⟨rfl, B2'⟩; (have B2 := B1.trans (B2'.mono B1.size)); (have C2 := (C4.new w 25 (.int .i64 0) (.int .i64 0) (.int .i64 0) (.int .i64 0)).next B2); (have D2 : Below w.heap.size w w2 := alloc_b.trans (B2.mono (by simp))); (have q0 := C2.c0); (have q1 := C2.c1); (have q2 := C2.c2); (have q3 := C2.c3); (have qf := C2.f); (have qh := C2.hi)))
      clear q0 q1 q2 q3 qf qh
      have F0 := C2.put (.int .i64 A) (.int .i64 B) (.int .i64 C) (.int .i64 D)
      have BN : Below w.heap.size w (set4 w2 w.heap.size (.int .i64 A) (.int .i64 B) (.int .i64 C) (.int .i64 D)) := D2.trans ((only_set4 _ _ _ _ _ _).below (Nat.le_refl _) D2.size)
      unfold set4 at F0 BN
      have r0 := F0.c0
      have r1 := F0.c1
      have r2 := F0.c2
      have r3 := F0.c3
      clear F0
      exact bodyPost_ret (v := .tuple #[.agg #[.int .i64 A, .int .i64 B, .int .i64 C, .int .i64 D], .bool true]) (by simp [results, Try.results21, go_sem, r0, r1, r2, r3]) rfl ⟨rfl, BN⟩

    · rw [upd_no (by unfold upB; rw [show szF 3 = 2 from rfl, decide_eq_false h1, Bool.and_false])]
      have hs2 : ¬ ((n : Int) = 2) := by omega
      clear X h1
      go_enter Try.func21, Try.ntmps21
      go_wp2_with (first | (go_at_call 43; refine (HF.out _).mono ?_; rintro e w2 ⟨rfl, hw⟩; subst w2) | (go_at_call 113; refine (HS.out _).mono ?_; rintro e w2 ⟨rfl, B2⟩; (have C2 := (C4.new w 25 (.int .i64 0) (.int .i64 0) (.int .i64 0) (.int .i64 0)).next B2); (have D2 : Below w.heap.size w w2 := alloc_b.trans (B2.mono (by simp))); (have q0 := C2.c0); (have q1 := C2.c1); (have q2 := C2.c2); (have q3 := C2.c3); (have qf := C2.f); (have qh := C2.hi)))
      have F0 := C2.put (.int .i64 0) (.int .i64 0) (.int .i64 0) (.int .i64 0)
      have BN : Below w.heap.size w (set4 w2 w.heap.size (.int .i64 0) (.int .i64 0) (.int .i64 0) (.int .i64 0)) := D2.trans ((only_set4 _ _ _ _ _ _).below (Nat.le_refl _) D2.size)
      unfold set4 at F0 BN
      have r0 := F0.c0
      have r1 := F0.c1
      have r2 := F0.c2
      have r3 := F0.c3
      clear F0 q0 q1 q2 q3 qf qh
      exact bodyPost_ret (v := .tuple #[.agg #[.int .i64 0, .int .i64 0, .int .i64 0, .int .i64 0], .bool false]) (by simp [results, Try.results21, go_sem, r0, r1, r2, r3]) rfl ⟨rfl, BN⟩
  · obtain ⟨h1, h2, h3⟩ := fm_no hf
    rw [upd_no (by unfold upB; rw [h2]; rfl)]
    have HF : Hid (∀ w : World, Calls Try.prog 43 #[.int .i64 f] w fun e w' => e = .returned (.tuple #[.nilIface, .bool false]) ∧ w' = w) := fun w => by
      have := fmt43 f w
      rwa [h1, h2] at this
    clear h1 h2 h3 X hf
    go_enter Try.func21, Try.ntmps21
    go_wp2_with (go_at_call 43; refine (HF.out _).mono ?_; rintro e w2 ⟨rfl, hw⟩; subst w2)
    exact bodyPost_ret (v := .tuple #[.agg #[.int .i64 0, .int .i64 0, .int .i64 0, .int .i64 0], .bool false]) (by simp [results, Try.results21, go_sem]) rfl ⟨rfl, alloc_b⟩
end Go.Proofs.Ythkngcdfnemhaaa
