/- CallWords' calls by name: the model's l6Call and the program's callOfWholes, callOfFloats answer alike; conditions: words of 32 bits, the table of float forms. -/
import Derived.Test.YtoloenkcfpfgcaaDoorCwA
import Derived.Test.YtoloenkcfpfgcaaDoorRootWord
import Derived.Deep.QuietTactic
import Derived.BigQuiet
import Derived.Deep.RegionHeld3
namespace Go.Proofs.YtoloenkcfpfgcaaDoor
open Go.ChangeShapes Go.WideShapes Go.ChangeAt Go.RowKit
set_option linter.unusedVariables false
theorem wrap_w32 (a : Int) : -2147483648 ≤ wrap32 a ∧ wrap32 a ≤ 2147483647 ∧ wrap32 a % 4294967296 = a % 4294967296 := by
  unfold wrap32
  omega
set_option maxRecDepth 100000 in
set_option maxHeartbeats 4000000 in
theorem float_f (s : ByteArray) (es : s.toList = [102, 108, 111, 97, 116]) (d0 d1 d2 : Int) (p0 : 0 ≤ d0) (p1 : d0 < 4294967296) (q0 : 0 ≤ d1) (q1 : d1 < 4294967296) (r0 : 0 ≤ d2) (r1 : d2 < 4294967296) : ∃ R : Int, (∀ (w : World) (a n : Nat), n = 1 → w.cell? ⟨a, 0, none⟩ = some (.int .u32 d0) → (2 ≤ n → w.cell? ⟨a, 1, none⟩ = some (.int .u32 d1)) → (3 ≤ n → w.cell? ⟨a, 2, none⟩ = some (.int .u32 d2)) → Calls Tryd.prog 9 #[.string s, .bool true, .slice (some ⟨a, 0, none⟩) n n] w fun e w' => e = .returned (.int .u32 R) ∧ Below w.heap.size w w') ∧ (∀ w : World, Forms w → Calls Tryd.prog 12 #[.string s, .agg #[.int .u32 d0, .int .u32 d1, .int .u32 d2]] w fun e w' => e = .returned (.int .u32 R) ∧ Below w.heap.size w w') := by
  have f0 : (s.toList == [97, 98, 115]) = false := by rw [es]; rfl
  have f1 : (s.toList == [109, 105, 110]) = false := by rw [es]; rfl
  have f2 : (s.toList == [109, 97, 120]) = false := by rw [es]; rfl
  have f3 : (s.toList == [102, 109, 97]) = false := by rw [es]; rfl
  have f4 : (s.toList == [115, 113, 114, 116]) = false := by rw [es]; rfl
  have f5 : (s.toList == [102, 108, 111, 97, 116]) = true := by rw [es]; rfl
  have f6 : (s.toList == [105, 110, 116]) = false := by rw [es]; rfl
  clear es
  refine ⟨d0, fun w a n hn c0 c1 c2 => ?_, fun w G => ?_⟩
  · subst hn
    clear c1
    clear c2
    go_enter Tryd.func9, Tryd.ntmps9
    go_wp2
    go_ret
    exact ⟨rfl, Below.refl _ _⟩
  · have bx : Below w.heap.size w (w.alloc (.cells #[.int .u32 d0, .int .u32 d1, .int .u32 d2] 30)) := (Below.refl _ _).alloc (Nat.le_refl _) _
    have G1 := G.below bx
    go_enter Tryd.func12, Tryd.ntmps12
    go_wp2
    go_quiet (fail)
    go_wp2
    go_ret
    exact ⟨rfl, below_drewN bx _⟩
set_option maxRecDepth 100000 in
set_option maxHeartbeats 4000000 in
theorem int_w (s : ByteArray) (es : s.toList = [105, 110, 116]) (d0 d1 d2 : Int) (p0 : 0 ≤ d0) (p1 : d0 < 4294967296) (q0 : 0 ≤ d1) (q1 : d1 < 4294967296) (r0 : 0 ≤ d2) (r1 : d2 < 4294967296) : ∃ R : Int, (∀ (w : World) (a n : Nat), n = 1 → w.cell? ⟨a, 0, none⟩ = some (.int .u32 d0) → (2 ≤ n → w.cell? ⟨a, 1, none⟩ = some (.int .u32 d1)) → (3 ≤ n → w.cell? ⟨a, 2, none⟩ = some (.int .u32 d2)) → Calls Tryd.prog 9 #[.string s, .bool false, .slice (some ⟨a, 0, none⟩) n n] w fun e w' => e = .returned (.int .u32 R) ∧ Below w.heap.size w w') ∧ (∀ w : World, Forms w → Calls Tryd.prog 11 #[.string s, .agg #[.int .u32 d0, .int .u32 d1, .int .u32 d2]] w fun e w' => e = .returned (.int .u32 R) ∧ Below w.heap.size w w') := by
  have f0 : (s.toList == [97, 98, 115]) = false := by rw [es]; rfl
  have f1 : (s.toList == [109, 105, 110]) = false := by rw [es]; rfl
  have f2 : (s.toList == [109, 97, 120]) = false := by rw [es]; rfl
  have f3 : (s.toList == [102, 109, 97]) = false := by rw [es]; rfl
  have f4 : (s.toList == [115, 113, 114, 116]) = false := by rw [es]; rfl
  have f5 : (s.toList == [102, 108, 111, 97, 116]) = false := by rw [es]; rfl
  have f6 : (s.toList == [105, 110, 116]) = true := by rw [es]; rfl
  clear es
  refine ⟨d0, fun w a n hn c0 c1 c2 => ?_, fun w G => ?_⟩
  · subst hn
    clear c1
    clear c2
    go_enter Tryd.func9, Tryd.ntmps9
    go_wp2
    go_ret
    exact ⟨rfl, Below.refl _ _⟩
  · have bx : Below w.heap.size w (w.alloc (.cells #[.int .u32 d0, .int .u32 d1, .int .u32 d2] 30)) := (Below.refl _ _).alloc (Nat.le_refl _) _
    have G1 := G.below bx
    go_enter Tryd.func11, Tryd.ntmps11
    go_wp2
    go_quiet (fail)
    go_wp2
    go_ret
    exact ⟨rfl, below_drewN bx _⟩
set_option maxRecDepth 100000 in
set_option maxHeartbeats 4000000 in
theorem sqrt_w (s : ByteArray) (es : s.toList = [115, 113, 114, 116]) (d0 d1 d2 : Int) (p0 : 0 ≤ d0) (p1 : d0 < 4294967296) (q0 : 0 ≤ d1) (q1 : d1 < 4294967296) (r0 : 0 ≤ d2) (r1 : d2 < 4294967296) : ∃ R : Int, (∀ (w : World) (a n : Nat), n = 1 → w.cell? ⟨a, 0, none⟩ = some (.int .u32 d0) → (2 ≤ n → w.cell? ⟨a, 1, none⟩ = some (.int .u32 d1)) → (3 ≤ n → w.cell? ⟨a, 2, none⟩ = some (.int .u32 d2)) → Calls Tryd.prog 9 #[.string s, .bool false, .slice (some ⟨a, 0, none⟩) n n] w fun e w' => e = .returned (.int .u32 R) ∧ Below w.heap.size w w') ∧ (∀ w : World, Forms w → Calls Tryd.prog 11 #[.string s, .agg #[.int .u32 d0, .int .u32 d1, .int .u32 d2]] w fun e w' => e = .returned (.int .u32 R) ∧ Below w.heap.size w w') := by
  have f0 : (s.toList == [97, 98, 115]) = false := by rw [es]; rfl
  have f1 : (s.toList == [109, 105, 110]) = false := by rw [es]; rfl
  have f2 : (s.toList == [109, 97, 120]) = false := by rw [es]; rfl
  have f3 : (s.toList == [102, 109, 97]) = false := by rw [es]; rfl
  have f4 : (s.toList == [115, 113, 114, 116]) = true := by rw [es]; rfl
  have f5 : (s.toList == [102, 108, 111, 97, 116]) = false := by rw [es]; rfl
  have f6 : (s.toList == [105, 110, 116]) = false := by rw [es]; rfl
  clear es
  refine ⟨0, fun w a n hn c0 c1 c2 => ?_, fun w G => ?_⟩
  · subst hn
    clear c1
    clear c2
    go_enter Tryd.func9, Tryd.ntmps9
    go_wp2
    go_ret
    exact ⟨rfl, Below.refl _ _⟩
  · have bx : Below w.heap.size w (w.alloc (.cells #[.int .u32 d0, .int .u32 d1, .int .u32 d2] 30)) := (Below.refl _ _).alloc (Nat.le_refl _) _
    have G1 := G.below bx
    go_enter Tryd.func11, Tryd.ntmps11
    go_wp2
    go_quiet (fail)
    go_wp2
    go_ret
    exact ⟨rfl, below_drewN bx _⟩
set_option maxRecDepth 100000 in
set_option maxHeartbeats 4000000 in
theorem fma_w (s : ByteArray) (es : s.toList = [102, 109, 97]) (d0 d1 d2 : Int) (p0 : 0 ≤ d0) (p1 : d0 < 4294967296) (q0 : 0 ≤ d1) (q1 : d1 < 4294967296) (r0 : 0 ≤ d2) (r1 : d2 < 4294967296) : ∃ R : Int, (∀ (w : World) (a n : Nat), n = 3 → w.cell? ⟨a, 0, none⟩ = some (.int .u32 d0) → (2 ≤ n → w.cell? ⟨a, 1, none⟩ = some (.int .u32 d1)) → (3 ≤ n → w.cell? ⟨a, 2, none⟩ = some (.int .u32 d2)) → Calls Tryd.prog 9 #[.string s, .bool false, .slice (some ⟨a, 0, none⟩) n n] w fun e w' => e = .returned (.int .u32 R) ∧ Below w.heap.size w w') ∧ (∀ w : World, Forms w → Calls Tryd.prog 11 #[.string s, .agg #[.int .u32 d0, .int .u32 d1, .int .u32 d2]] w fun e w' => e = .returned (.int .u32 R) ∧ Below w.heap.size w w') := by
  have f0 : (s.toList == [97, 98, 115]) = false := by rw [es]; rfl
  have f1 : (s.toList == [109, 105, 110]) = false := by rw [es]; rfl
  have f2 : (s.toList == [109, 97, 120]) = false := by rw [es]; rfl
  have f3 : (s.toList == [102, 109, 97]) = true := by rw [es]; rfl
  have f4 : (s.toList == [115, 113, 114, 116]) = false := by rw [es]; rfl
  have f5 : (s.toList == [102, 108, 111, 97, 116]) = false := by rw [es]; rfl
  have f6 : (s.toList == [105, 110, 116]) = false := by rw [es]; rfl
  clear es
  refine ⟨0, fun w a n hn c0 c1 c2 => ?_, fun w G => ?_⟩
  · subst hn
    have c1 := c1 (by omega)
    have c2 := c2 (by omega)
    go_enter Tryd.func9, Tryd.ntmps9
    go_wp2
    go_ret
    exact ⟨rfl, Below.refl _ _⟩
  · have bx : Below w.heap.size w (w.alloc (.cells #[.int .u32 d0, .int .u32 d1, .int .u32 d2] 30)) := (Below.refl _ _).alloc (Nat.le_refl _) _
    have G1 := G.below bx
    go_enter Tryd.func11, Tryd.ntmps11
    go_wp2
    go_quiet (fail)
    go_wp2
    go_ret
    exact ⟨rfl, below_drewN bx _⟩
set_option maxRecDepth 100000 in
set_option maxHeartbeats 4000000 in
theorem float_w (s : ByteArray) (es : s.toList = [102, 108, 111, 97, 116]) (d0 d1 d2 : Int) (p0 : 0 ≤ d0) (p1 : d0 < 4294967296) (q0 : 0 ≤ d1) (q1 : d1 < 4294967296) (r0 : 0 ≤ d2) (r1 : d2 < 4294967296) : ∃ R : Int, (∀ (w : World) (a n : Nat), n = 1 → w.cell? ⟨a, 0, none⟩ = some (.int .u32 d0) → (2 ≤ n → w.cell? ⟨a, 1, none⟩ = some (.int .u32 d1)) → (3 ≤ n → w.cell? ⟨a, 2, none⟩ = some (.int .u32 d2)) → Calls Tryd.prog 9 #[.string s, .bool false, .slice (some ⟨a, 0, none⟩) n n] w fun e w' => e = .returned (.int .u32 R) ∧ Below w.heap.size w w') ∧ (∀ w : World, Forms w → Calls Tryd.prog 11 #[.string s, .agg #[.int .u32 d0, .int .u32 d1, .int .u32 d2]] w fun e w' => e = .returned (.int .u32 R) ∧ Below w.heap.size w w') := by
  have f0 : (s.toList == [97, 98, 115]) = false := by rw [es]; rfl
  have f1 : (s.toList == [109, 105, 110]) = false := by rw [es]; rfl
  have f2 : (s.toList == [109, 97, 120]) = false := by rw [es]; rfl
  have f3 : (s.toList == [102, 109, 97]) = false := by rw [es]; rfl
  have f4 : (s.toList == [115, 113, 114, 116]) = false := by rw [es]; rfl
  have f5 : (s.toList == [102, 108, 111, 97, 116]) = true := by rw [es]; rfl
  have f6 : (s.toList == [105, 110, 116]) = false := by rw [es]; rfl
  clear es
  obtain ⟨R, hs, hi⟩ := toF_both d0 p0 p1
  have HS : Hid (∀ w : World, Calls Tryd.prog 17 #[.int .u32 d0] w fun e w' => e = .returned (.int .u32 R) ∧ Below w.heap.size w w') := hs
  have HI : Hid (∀ w : World, Forms w → Calls Tryd.prog 19 #[.int .u32 d0] w fun e w' => e = .returned (.int .u32 R) ∧ Below w.heap.size w w') := hi
  clear hs hi
  refine ⟨R, fun w a n hn c0 c1 c2 => ?_, fun w G => ?_⟩
  · subst hn
    clear c1
    clear c2
    go_enter Tryd.func9, Tryd.ntmps9
    go_wp2_with (go_at_call 17; refine (HS.out _).mono ?_; rintro e w1 ⟨rfl, b1⟩)
    go_ret
    exact ⟨rfl, b1⟩
  · have bx : Below w.heap.size w (w.alloc (.cells #[.int .u32 d0, .int .u32 d1, .int .u32 d2] 30)) := (Below.refl _ _).alloc (Nat.le_refl _) _
    have G1 := G.below bx
    go_enter Tryd.func11, Tryd.ntmps11
    go_wp2
    go_quiet (fail)
    go_wp2_with (go_at_call 19; refine (HI.out _ (by first | exact G1 | exact G1.below (below_drewN (Below.refl _ _) _))).mono ?_; rintro e w1 ⟨rfl, b1⟩)
    go_ret
    exact ⟨rfl, (below_drewN bx _).trans (b1.mono (by simp))⟩
set_option maxRecDepth 100000 in
set_option maxHeartbeats 4000000 in
theorem int_f (s : ByteArray) (es : s.toList = [105, 110, 116]) (d0 d1 d2 : Int) (p0 : 0 ≤ d0) (p1 : d0 < 4294967296) (q0 : 0 ≤ d1) (q1 : d1 < 4294967296) (r0 : 0 ≤ d2) (r1 : d2 < 4294967296) : ∃ R : Int, (∀ (w : World) (a n : Nat), n = 1 → w.cell? ⟨a, 0, none⟩ = some (.int .u32 d0) → (2 ≤ n → w.cell? ⟨a, 1, none⟩ = some (.int .u32 d1)) → (3 ≤ n → w.cell? ⟨a, 2, none⟩ = some (.int .u32 d2)) → Calls Tryd.prog 9 #[.string s, .bool true, .slice (some ⟨a, 0, none⟩) n n] w fun e w' => e = .returned (.int .u32 R) ∧ Below w.heap.size w w') ∧ (∀ w : World, Forms w → Calls Tryd.prog 12 #[.string s, .agg #[.int .u32 d0, .int .u32 d1, .int .u32 d2]] w fun e w' => e = .returned (.int .u32 R) ∧ Below w.heap.size w w') := by
  have f0 : (s.toList == [97, 98, 115]) = false := by rw [es]; rfl
  have f1 : (s.toList == [109, 105, 110]) = false := by rw [es]; rfl
  have f2 : (s.toList == [109, 97, 120]) = false := by rw [es]; rfl
  have f3 : (s.toList == [102, 109, 97]) = false := by rw [es]; rfl
  have f4 : (s.toList == [115, 113, 114, 116]) = false := by rw [es]; rfl
  have f5 : (s.toList == [102, 108, 111, 97, 116]) = false := by rw [es]; rfl
  have f6 : (s.toList == [105, 110, 116]) = true := by rw [es]; rfl
  clear es
  obtain ⟨R, hs, hi⟩ := toW_both d0 p0 p1
  have HS : Hid (∀ w : World, Calls Tryd.prog 18 #[.int .u32 d0] w fun e w' => e = .returned (.int .u32 R) ∧ Below w.heap.size w w') := hs
  have HI : Hid (∀ w : World, Forms w → Calls Tryd.prog 24 #[.int .u32 d0] w fun e w' => e = .returned (.int .u32 R) ∧ Below w.heap.size w w') := hi
  clear hs hi
  refine ⟨R, fun w a n hn c0 c1 c2 => ?_, fun w G => ?_⟩
  · subst hn
    clear c1
    clear c2
    go_enter Tryd.func9, Tryd.ntmps9
    go_wp2_with (go_at_call 18; refine (HS.out _).mono ?_; rintro e w1 ⟨rfl, b1⟩)
    go_ret
    exact ⟨rfl, b1⟩
  · have bx : Below w.heap.size w (w.alloc (.cells #[.int .u32 d0, .int .u32 d1, .int .u32 d2] 30)) := (Below.refl _ _).alloc (Nat.le_refl _) _
    have G1 := G.below bx
    go_enter Tryd.func12, Tryd.ntmps12
    go_wp2
    go_quiet (fail)
    go_wp2_with (go_at_call 24; refine (HI.out _ (by first | exact G1 | exact G1.below (below_drewN (Below.refl _ _) _))).mono ?_; rintro e w1 ⟨rfl, b1⟩)
    go_ret
    exact ⟨rfl, (below_drewN bx _).trans (b1.mono (by simp))⟩
set_option maxRecDepth 100000 in
set_option maxHeartbeats 4000000 in
theorem sqrt_f (s : ByteArray) (es : s.toList = [115, 113, 114, 116]) (d0 d1 d2 : Int) (p0 : 0 ≤ d0) (p1 : d0 < 4294967296) (q0 : 0 ≤ d1) (q1 : d1 < 4294967296) (r0 : 0 ≤ d2) (r1 : d2 < 4294967296) : ∃ R : Int, (∀ (w : World) (a n : Nat), n = 1 → w.cell? ⟨a, 0, none⟩ = some (.int .u32 d0) → (2 ≤ n → w.cell? ⟨a, 1, none⟩ = some (.int .u32 d1)) → (3 ≤ n → w.cell? ⟨a, 2, none⟩ = some (.int .u32 d2)) → Calls Tryd.prog 9 #[.string s, .bool true, .slice (some ⟨a, 0, none⟩) n n] w fun e w' => e = .returned (.int .u32 R) ∧ Below w.heap.size w w') ∧ (∀ w : World, Forms w → Calls Tryd.prog 12 #[.string s, .agg #[.int .u32 d0, .int .u32 d1, .int .u32 d2]] w fun e w' => e = .returned (.int .u32 R) ∧ Below w.heap.size w w') := by
  have f0 : (s.toList == [97, 98, 115]) = false := by rw [es]; rfl
  have f1 : (s.toList == [109, 105, 110]) = false := by rw [es]; rfl
  have f2 : (s.toList == [109, 97, 120]) = false := by rw [es]; rfl
  have f3 : (s.toList == [102, 109, 97]) = false := by rw [es]; rfl
  have f4 : (s.toList == [115, 113, 114, 116]) = true := by rw [es]; rfl
  have f5 : (s.toList == [102, 108, 111, 97, 116]) = false := by rw [es]; rfl
  have f6 : (s.toList == [105, 110, 116]) = false := by rw [es]; rfl
  clear es
  obtain ⟨R, hs, hi⟩ := fnExactRootWord.both d0 0 p0 p1 (by omega)
  have HS : Hid (∀ w : World, Calls Tryd.prog 16 #[.int .u32 d0, .int .i64 0] w fun e w' => e = .returned (.int .u32 R) ∧ Below w.heap.size w w') := hs
  have HI : Hid (∀ w : World, Forms w → Calls Tryd.prog 23 #[.int .u32 d0, .int .i64 0] w fun e w' => e = .returned (.int .u32 R) ∧ Below w.heap.size w w') := hi
  clear hs hi
  refine ⟨R, fun w a n hn c0 c1 c2 => ?_, fun w G => ?_⟩
  · subst hn
    clear c1
    clear c2
    go_enter Tryd.func9, Tryd.ntmps9
    go_wp2_with (go_at_call 16; refine (HS.out _).mono ?_; rintro e w1 ⟨rfl, b1⟩)
    go_ret
    exact ⟨rfl, b1⟩
  · have bx : Below w.heap.size w (w.alloc (.cells #[.int .u32 d0, .int .u32 d1, .int .u32 d2] 30)) := (Below.refl _ _).alloc (Nat.le_refl _) _
    have G1 := G.below bx
    go_enter Tryd.func12, Tryd.ntmps12
    go_wp2
    go_quiet (fail)
    go_wp2_with (go_at_call 23; refine (HI.out _ (by first | exact G1 | exact G1.below (below_drewN (Below.refl _ _) _))).mono ?_; rintro e w1 ⟨rfl, b1⟩)
    go_ret
    exact ⟨rfl, (below_drewN bx _).trans (b1.mono (by simp))⟩
set_option maxRecDepth 100000 in
set_option maxHeartbeats 4000000 in
theorem abs_w_n (s : ByteArray) (es : s.toList = [97, 98, 115]) (d0 d1 d2 : Int) (p0 : 0 ≤ d0) (p1 : d0 < 4294967296) (q0 : 0 ≤ d1) (q1 : d1 < 4294967296) (r0 : 0 ≤ d2) (r1 : d2 < 4294967296) (h : 2147483648 ≤ d0) : ∃ R : Int, (∀ (w : World) (a n : Nat), n = 1 → w.cell? ⟨a, 0, none⟩ = some (.int .u32 d0) → (2 ≤ n → w.cell? ⟨a, 1, none⟩ = some (.int .u32 d1)) → (3 ≤ n → w.cell? ⟨a, 2, none⟩ = some (.int .u32 d2)) → Calls Tryd.prog 9 #[.string s, .bool false, .slice (some ⟨a, 0, none⟩) n n] w fun e w' => e = .returned (.int .u32 R) ∧ Below w.heap.size w w') ∧ (∀ w : World, Forms w → Calls Tryd.prog 11 #[.string s, .agg #[.int .u32 d0, .int .u32 d1, .int .u32 d2]] w fun e w' => e = .returned (.int .u32 R) ∧ Below w.heap.size w w') := by
  have f0 : (s.toList == [97, 98, 115]) = true := by rw [es]; rfl
  have f1 : (s.toList == [109, 105, 110]) = false := by rw [es]; rfl
  have f2 : (s.toList == [109, 97, 120]) = false := by rw [es]; rfl
  have f3 : (s.toList == [102, 109, 97]) = false := by rw [es]; rfl
  have f4 : (s.toList == [115, 113, 114, 116]) = false := by rw [es]; rfl
  have f5 : (s.toList == [102, 108, 111, 97, 116]) = false := by rw [es]; rfl
  have f6 : (s.toList == [105, 110, 116]) = false := by rw [es]; rfl
  clear es
  have e2 : wrap32 d0 < 0 := by unfold wrap32; omega
  refine ⟨4294967296 - d0, fun w a n hn c0 c1 c2 => ?_, fun w G => ?_⟩
  · subst hn
    clear c1
    clear c2
    go_enter Tryd.func9, Tryd.ntmps9
    go_wp2
    all_goals
      go_ret
      refine ⟨?_, Below.refl _ _⟩
      first | rfl | ((show Ending.returned (Value.int .u32 _) = Ending.returned (Value.int .u32 _)); congr 2; first | omega | (unfold wrap32 at *; omega))
  · have bx : Below w.heap.size w (w.alloc (.cells #[.int .u32 d0, .int .u32 d1, .int .u32 d2] 30)) := (Below.refl _ _).alloc (Nat.le_refl _) _
    have G1 := G.below bx
    go_enter Tryd.func11, Tryd.ntmps11
    go_wp2
    go_quiet (fail)
    go_wp2
    all_goals
      go_ret
      refine ⟨?_, below_drewN bx _⟩
      first | rfl | ((show Ending.returned (Value.int .u32 _) = Ending.returned (Value.int .u32 _)); congr 2; first | omega | (unfold wrap32 at *; omega))
set_option maxRecDepth 100000 in
set_option maxHeartbeats 4000000 in
theorem abs_w_p (s : ByteArray) (es : s.toList = [97, 98, 115]) (d0 d1 d2 : Int) (p0 : 0 ≤ d0) (p1 : d0 < 4294967296) (q0 : 0 ≤ d1) (q1 : d1 < 4294967296) (r0 : 0 ≤ d2) (r1 : d2 < 4294967296) (h : ¬ 2147483648 ≤ d0) : ∃ R : Int, (∀ (w : World) (a n : Nat), n = 1 → w.cell? ⟨a, 0, none⟩ = some (.int .u32 d0) → (2 ≤ n → w.cell? ⟨a, 1, none⟩ = some (.int .u32 d1)) → (3 ≤ n → w.cell? ⟨a, 2, none⟩ = some (.int .u32 d2)) → Calls Tryd.prog 9 #[.string s, .bool false, .slice (some ⟨a, 0, none⟩) n n] w fun e w' => e = .returned (.int .u32 R) ∧ Below w.heap.size w w') ∧ (∀ w : World, Forms w → Calls Tryd.prog 11 #[.string s, .agg #[.int .u32 d0, .int .u32 d1, .int .u32 d2]] w fun e w' => e = .returned (.int .u32 R) ∧ Below w.heap.size w w') := by
  have f0 : (s.toList == [97, 98, 115]) = true := by rw [es]; rfl
  have f1 : (s.toList == [109, 105, 110]) = false := by rw [es]; rfl
  have f2 : (s.toList == [109, 97, 120]) = false := by rw [es]; rfl
  have f3 : (s.toList == [102, 109, 97]) = false := by rw [es]; rfl
  have f4 : (s.toList == [115, 113, 114, 116]) = false := by rw [es]; rfl
  have f5 : (s.toList == [102, 108, 111, 97, 116]) = false := by rw [es]; rfl
  have f6 : (s.toList == [105, 110, 116]) = false := by rw [es]; rfl
  clear es
  have e2 : ¬ wrap32 d0 < 0 := by unfold wrap32; omega
  refine ⟨d0, fun w a n hn c0 c1 c2 => ?_, fun w G => ?_⟩
  · subst hn
    clear c1
    clear c2
    go_enter Tryd.func9, Tryd.ntmps9
    go_wp2
    all_goals
      go_ret
      refine ⟨?_, Below.refl _ _⟩
      first | rfl | ((show Ending.returned (Value.int .u32 _) = Ending.returned (Value.int .u32 _)); congr 2; first | omega | (unfold wrap32 at *; omega))
  · have bx : Below w.heap.size w (w.alloc (.cells #[.int .u32 d0, .int .u32 d1, .int .u32 d2] 30)) := (Below.refl _ _).alloc (Nat.le_refl _) _
    have G1 := G.below bx
    go_enter Tryd.func11, Tryd.ntmps11
    go_wp2
    go_quiet (fail)
    go_wp2
    all_goals
      go_ret
      refine ⟨?_, below_drewN bx _⟩
      first | rfl | ((show Ending.returned (Value.int .u32 _) = Ending.returned (Value.int .u32 _)); congr 2; first | omega | (unfold wrap32 at *; omega))
theorem abs_w (s : ByteArray) (es : s.toList = [97, 98, 115]) (d0 d1 d2 : Int) (p0 : 0 ≤ d0) (p1 : d0 < 4294967296) (q0 : 0 ≤ d1) (q1 : d1 < 4294967296) (r0 : 0 ≤ d2) (r1 : d2 < 4294967296) : ∃ R : Int, (∀ (w : World) (a n : Nat), n = 1 → w.cell? ⟨a, 0, none⟩ = some (.int .u32 d0) → (2 ≤ n → w.cell? ⟨a, 1, none⟩ = some (.int .u32 d1)) → (3 ≤ n → w.cell? ⟨a, 2, none⟩ = some (.int .u32 d2)) → Calls Tryd.prog 9 #[.string s, .bool false, .slice (some ⟨a, 0, none⟩) n n] w fun e w' => e = .returned (.int .u32 R) ∧ Below w.heap.size w w') ∧ (∀ w : World, Forms w → Calls Tryd.prog 11 #[.string s, .agg #[.int .u32 d0, .int .u32 d1, .int .u32 d2]] w fun e w' => e = .returned (.int .u32 R) ∧ Below w.heap.size w w') := by
  by_cases h : 2147483648 ≤ d0
  · exact abs_w_n s es d0 d1 d2 p0 p1 q0 q1 r0 r1 h
  · exact abs_w_p s es d0 d1 d2 p0 p1 q0 q1 r0 r1 h
set_option maxRecDepth 100000 in
set_option maxHeartbeats 4000000 in
theorem abs_f_n (s : ByteArray) (es : s.toList = [97, 98, 115]) (d0 d1 d2 : Int) (p0 : 0 ≤ d0) (p1 : d0 < 4294967296) (q0 : 0 ≤ d1) (q1 : d1 < 4294967296) (r0 : 0 ≤ d2) (r1 : d2 < 4294967296) (h : 2139095040 < d0 % 2147483648) : ∃ R : Int, (∀ (w : World) (a n : Nat), n = 1 → w.cell? ⟨a, 0, none⟩ = some (.int .u32 d0) → (2 ≤ n → w.cell? ⟨a, 1, none⟩ = some (.int .u32 d1)) → (3 ≤ n → w.cell? ⟨a, 2, none⟩ = some (.int .u32 d2)) → Calls Tryd.prog 9 #[.string s, .bool true, .slice (some ⟨a, 0, none⟩) n n] w fun e w' => e = .returned (.int .u32 R) ∧ Below w.heap.size w w') ∧ (∀ w : World, Forms w → Calls Tryd.prog 12 #[.string s, .agg #[.int .u32 d0, .int .u32 d1, .int .u32 d2]] w fun e w' => e = .returned (.int .u32 R) ∧ Below w.heap.size w w') := by
  have f0 : (s.toList == [97, 98, 115]) = true := by rw [es]; rfl
  have f1 : (s.toList == [109, 105, 110]) = false := by rw [es]; rfl
  have f2 : (s.toList == [109, 97, 120]) = false := by rw [es]; rfl
  have f3 : (s.toList == [102, 109, 97]) = false := by rw [es]; rfl
  have f4 : (s.toList == [115, 113, 114, 116]) = false := by rw [es]; rfl
  have f5 : (s.toList == [102, 108, 111, 97, 116]) = false := by rw [es]; rfl
  have f6 : (s.toList == [105, 110, 116]) = false := by rw [es]; rfl
  clear es
  have hn := sNaN_any d0 p0 p1
  rw [decide_eq_true h] at hn
  have hb := bit_low d0 p0 p1
  have hr := bit_rung d0 p0 p1
  have eN : nanOr d0 = 2143289344 := by unfold nanOr; rw [if_pos h]
  have H20 : Hid (∀ w : World, Forms w → Calls Tryd.prog 20 #[.int .u32 (d0 % 2147483648)] w fun e w' => e = .returned (.int .u32 (nanOr d0)) ∧ w' = w) := fun w G => oneNaN20 d0 p0 p1 w G
  rw [eN] at H20
  clear h eN
  refine ⟨2143289344, fun w a n hn c0 c1 c2 => ?_, fun w G => ?_⟩
  · subst hn
    clear c1
    clear c2
    go_enter Tryd.func9, Tryd.ntmps9
    go_wp2_with (go_at_call 13; refine (hn _).mono ?_; rintro e w1 ⟨rfl, hw1⟩; subst w1)
    go_ret
    exact ⟨rfl, Below.refl _ _⟩
  · have bx : Below w.heap.size w (w.alloc (.cells #[.int .u32 d0, .int .u32 d1, .int .u32 d2] 30)) := (Below.refl _ _).alloc (Nat.le_refl _) _
    have G1 := G.below bx
    go_enter Tryd.func12, Tryd.ntmps12
    go_wp2
    go_quiet (fail)
    have g2 := G1.c2
    go_wp2_with (go_at_call 20; refine (H20.out _ (by first | exact G1 | exact G1.below (below_drewN (Below.refl _ _) _))).mono ?_; rintro e w1 ⟨rfl, hw1⟩; subst w1)
    go_ret
    exact ⟨rfl, below_drewN bx _⟩
set_option maxRecDepth 100000 in
set_option maxHeartbeats 4000000 in
theorem abs_f_p (s : ByteArray) (es : s.toList = [97, 98, 115]) (d0 d1 d2 : Int) (p0 : 0 ≤ d0) (p1 : d0 < 4294967296) (q0 : 0 ≤ d1) (q1 : d1 < 4294967296) (r0 : 0 ≤ d2) (r1 : d2 < 4294967296) (h : ¬ 2139095040 < d0 % 2147483648) : ∃ R : Int, (∀ (w : World) (a n : Nat), n = 1 → w.cell? ⟨a, 0, none⟩ = some (.int .u32 d0) → (2 ≤ n → w.cell? ⟨a, 1, none⟩ = some (.int .u32 d1)) → (3 ≤ n → w.cell? ⟨a, 2, none⟩ = some (.int .u32 d2)) → Calls Tryd.prog 9 #[.string s, .bool true, .slice (some ⟨a, 0, none⟩) n n] w fun e w' => e = .returned (.int .u32 R) ∧ Below w.heap.size w w') ∧ (∀ w : World, Forms w → Calls Tryd.prog 12 #[.string s, .agg #[.int .u32 d0, .int .u32 d1, .int .u32 d2]] w fun e w' => e = .returned (.int .u32 R) ∧ Below w.heap.size w w') := by
  have f0 : (s.toList == [97, 98, 115]) = true := by rw [es]; rfl
  have f1 : (s.toList == [109, 105, 110]) = false := by rw [es]; rfl
  have f2 : (s.toList == [109, 97, 120]) = false := by rw [es]; rfl
  have f3 : (s.toList == [102, 109, 97]) = false := by rw [es]; rfl
  have f4 : (s.toList == [115, 113, 114, 116]) = false := by rw [es]; rfl
  have f5 : (s.toList == [102, 108, 111, 97, 116]) = false := by rw [es]; rfl
  have f6 : (s.toList == [105, 110, 116]) = false := by rw [es]; rfl
  clear es
  have hn := sNaN_any d0 p0 p1
  rw [decide_eq_false h] at hn
  have hb := bit_low d0 p0 p1
  have hr := bit_rung d0 p0 p1
  have eN : nanOr d0 = d0 % 2147483648 := by unfold nanOr; rw [if_neg h]
  have H20 : Hid (∀ w : World, Forms w → Calls Tryd.prog 20 #[.int .u32 (d0 % 2147483648)] w fun e w' => e = .returned (.int .u32 (nanOr d0)) ∧ w' = w) := fun w G => oneNaN20 d0 p0 p1 w G
  rw [eN] at H20
  clear h eN
  refine ⟨d0 % 2147483648, fun w a n hn c0 c1 c2 => ?_, fun w G => ?_⟩
  · subst hn
    clear c1
    clear c2
    go_enter Tryd.func9, Tryd.ntmps9
    go_wp2_with (go_at_call 13; refine (hn _).mono ?_; rintro e w1 ⟨rfl, hw1⟩; subst w1)
    go_ret
    exact ⟨rfl, Below.refl _ _⟩
  · have bx : Below w.heap.size w (w.alloc (.cells #[.int .u32 d0, .int .u32 d1, .int .u32 d2] 30)) := (Below.refl _ _).alloc (Nat.le_refl _) _
    have G1 := G.below bx
    go_enter Tryd.func12, Tryd.ntmps12
    go_wp2
    go_quiet (fail)
    have g2 := G1.c2
    go_wp2_with (go_at_call 20; refine (H20.out _ (by first | exact G1 | exact G1.below (below_drewN (Below.refl _ _) _))).mono ?_; rintro e w1 ⟨rfl, hw1⟩; subst w1)
    go_ret
    exact ⟨rfl, below_drewN bx _⟩
theorem abs_f (s : ByteArray) (es : s.toList = [97, 98, 115]) (d0 d1 d2 : Int) (p0 : 0 ≤ d0) (p1 : d0 < 4294967296) (q0 : 0 ≤ d1) (q1 : d1 < 4294967296) (r0 : 0 ≤ d2) (r1 : d2 < 4294967296) : ∃ R : Int, (∀ (w : World) (a n : Nat), n = 1 → w.cell? ⟨a, 0, none⟩ = some (.int .u32 d0) → (2 ≤ n → w.cell? ⟨a, 1, none⟩ = some (.int .u32 d1)) → (3 ≤ n → w.cell? ⟨a, 2, none⟩ = some (.int .u32 d2)) → Calls Tryd.prog 9 #[.string s, .bool true, .slice (some ⟨a, 0, none⟩) n n] w fun e w' => e = .returned (.int .u32 R) ∧ Below w.heap.size w w') ∧ (∀ w : World, Forms w → Calls Tryd.prog 12 #[.string s, .agg #[.int .u32 d0, .int .u32 d1, .int .u32 d2]] w fun e w' => e = .returned (.int .u32 R) ∧ Below w.heap.size w w') := by
  by_cases h : 2139095040 < d0 % 2147483648
  · exact abs_f_n s es d0 d1 d2 p0 p1 q0 q1 r0 r1 h
  · exact abs_f_p s es d0 d1 d2 p0 p1 q0 q1 r0 r1 h
set_option maxRecDepth 100000 in
set_option maxHeartbeats 4000000 in
theorem min_w_n (s : ByteArray) (es : s.toList = [109, 105, 110]) (d0 d1 d2 : Int) (p0 : 0 ≤ d0) (p1 : d0 < 4294967296) (q0 : 0 ≤ d1) (q1 : d1 < 4294967296) (r0 : 0 ≤ d2) (r1 : d2 < 4294967296) (h : wrap32 d1 < wrap32 d0) : ∃ R : Int, (∀ (w : World) (a n : Nat), n = 2 → w.cell? ⟨a, 0, none⟩ = some (.int .u32 d0) → (2 ≤ n → w.cell? ⟨a, 1, none⟩ = some (.int .u32 d1)) → (3 ≤ n → w.cell? ⟨a, 2, none⟩ = some (.int .u32 d2)) → Calls Tryd.prog 9 #[.string s, .bool false, .slice (some ⟨a, 0, none⟩) n n] w fun e w' => e = .returned (.int .u32 R) ∧ Below w.heap.size w w') ∧ (∀ w : World, Forms w → Calls Tryd.prog 11 #[.string s, .agg #[.int .u32 d0, .int .u32 d1, .int .u32 d2]] w fun e w' => e = .returned (.int .u32 R) ∧ Below w.heap.size w w') := by
  have f0 : (s.toList == [97, 98, 115]) = false := by rw [es]; rfl
  have f1 : (s.toList == [109, 105, 110]) = true := by rw [es]; rfl
  have f2 : (s.toList == [109, 97, 120]) = false := by rw [es]; rfl
  have f3 : (s.toList == [102, 109, 97]) = false := by rw [es]; rfl
  have f4 : (s.toList == [115, 113, 114, 116]) = false := by rw [es]; rfl
  have f5 : (s.toList == [102, 108, 111, 97, 116]) = false := by rw [es]; rfl
  have f6 : (s.toList == [105, 110, 116]) = false := by rw [es]; rfl
  clear es
  have e1 := wrap_w32 d0
  have e2 := wrap_w32 d1
  obtain ⟨y0, hy0⟩ : ∃ y, wrap32 d0 = y := ⟨_, rfl⟩
  obtain ⟨y1, hy1⟩ : ∃ y, wrap32 d1 = y := ⟨_, rfl⟩
  rw [hy0] at e1 h
  rw [hy1] at e2 h
  refine ⟨d1, fun w a n hn c0 c1 c2 => ?_, fun w G => ?_⟩
  · subst hn
    have c1 := c1 (by omega)
    clear c2
    go_enter Tryd.func9, Tryd.ntmps9
    go_wp2
    all_goals
      go_ret
      refine ⟨?_, Below.refl _ _⟩
      first | rfl | ((show Ending.returned (Value.int .u32 _) = Ending.returned (Value.int .u32 _)); congr 2; first | omega | (unfold wrap32 at *; omega))
  · have bx : Below w.heap.size w (w.alloc (.cells #[.int .u32 d0, .int .u32 d1, .int .u32 d2] 30)) := (Below.refl _ _).alloc (Nat.le_refl _) _
    have G1 := G.below bx
    go_enter Tryd.func11, Tryd.ntmps11
    go_wp2
    go_quiet (fail)
    go_wp2
    all_goals
      go_ret
      refine ⟨?_, below_drewN bx _⟩
      first | rfl | ((show Ending.returned (Value.int .u32 _) = Ending.returned (Value.int .u32 _)); congr 2; first | omega | (unfold wrap32 at *; omega))
set_option maxRecDepth 100000 in
set_option maxHeartbeats 4000000 in
theorem min_w_p (s : ByteArray) (es : s.toList = [109, 105, 110]) (d0 d1 d2 : Int) (p0 : 0 ≤ d0) (p1 : d0 < 4294967296) (q0 : 0 ≤ d1) (q1 : d1 < 4294967296) (r0 : 0 ≤ d2) (r1 : d2 < 4294967296) (h : ¬ wrap32 d1 < wrap32 d0) : ∃ R : Int, (∀ (w : World) (a n : Nat), n = 2 → w.cell? ⟨a, 0, none⟩ = some (.int .u32 d0) → (2 ≤ n → w.cell? ⟨a, 1, none⟩ = some (.int .u32 d1)) → (3 ≤ n → w.cell? ⟨a, 2, none⟩ = some (.int .u32 d2)) → Calls Tryd.prog 9 #[.string s, .bool false, .slice (some ⟨a, 0, none⟩) n n] w fun e w' => e = .returned (.int .u32 R) ∧ Below w.heap.size w w') ∧ (∀ w : World, Forms w → Calls Tryd.prog 11 #[.string s, .agg #[.int .u32 d0, .int .u32 d1, .int .u32 d2]] w fun e w' => e = .returned (.int .u32 R) ∧ Below w.heap.size w w') := by
  have f0 : (s.toList == [97, 98, 115]) = false := by rw [es]; rfl
  have f1 : (s.toList == [109, 105, 110]) = true := by rw [es]; rfl
  have f2 : (s.toList == [109, 97, 120]) = false := by rw [es]; rfl
  have f3 : (s.toList == [102, 109, 97]) = false := by rw [es]; rfl
  have f4 : (s.toList == [115, 113, 114, 116]) = false := by rw [es]; rfl
  have f5 : (s.toList == [102, 108, 111, 97, 116]) = false := by rw [es]; rfl
  have f6 : (s.toList == [105, 110, 116]) = false := by rw [es]; rfl
  clear es
  have e1 := wrap_w32 d0
  have e2 := wrap_w32 d1
  obtain ⟨y0, hy0⟩ : ∃ y, wrap32 d0 = y := ⟨_, rfl⟩
  obtain ⟨y1, hy1⟩ : ∃ y, wrap32 d1 = y := ⟨_, rfl⟩
  rw [hy0] at e1 h
  rw [hy1] at e2 h
  refine ⟨d0, fun w a n hn c0 c1 c2 => ?_, fun w G => ?_⟩
  · subst hn
    have c1 := c1 (by omega)
    clear c2
    go_enter Tryd.func9, Tryd.ntmps9
    go_wp2
    all_goals
      go_ret
      refine ⟨?_, Below.refl _ _⟩
      first | rfl | ((show Ending.returned (Value.int .u32 _) = Ending.returned (Value.int .u32 _)); congr 2; first | omega | (unfold wrap32 at *; omega))
  · have bx : Below w.heap.size w (w.alloc (.cells #[.int .u32 d0, .int .u32 d1, .int .u32 d2] 30)) := (Below.refl _ _).alloc (Nat.le_refl _) _
    have G1 := G.below bx
    go_enter Tryd.func11, Tryd.ntmps11
    go_wp2
    go_quiet (fail)
    go_wp2
    all_goals
      go_ret
      refine ⟨?_, below_drewN bx _⟩
      first | rfl | ((show Ending.returned (Value.int .u32 _) = Ending.returned (Value.int .u32 _)); congr 2; first | omega | (unfold wrap32 at *; omega))
theorem min_w (s : ByteArray) (es : s.toList = [109, 105, 110]) (d0 d1 d2 : Int) (p0 : 0 ≤ d0) (p1 : d0 < 4294967296) (q0 : 0 ≤ d1) (q1 : d1 < 4294967296) (r0 : 0 ≤ d2) (r1 : d2 < 4294967296) : ∃ R : Int, (∀ (w : World) (a n : Nat), n = 2 → w.cell? ⟨a, 0, none⟩ = some (.int .u32 d0) → (2 ≤ n → w.cell? ⟨a, 1, none⟩ = some (.int .u32 d1)) → (3 ≤ n → w.cell? ⟨a, 2, none⟩ = some (.int .u32 d2)) → Calls Tryd.prog 9 #[.string s, .bool false, .slice (some ⟨a, 0, none⟩) n n] w fun e w' => e = .returned (.int .u32 R) ∧ Below w.heap.size w w') ∧ (∀ w : World, Forms w → Calls Tryd.prog 11 #[.string s, .agg #[.int .u32 d0, .int .u32 d1, .int .u32 d2]] w fun e w' => e = .returned (.int .u32 R) ∧ Below w.heap.size w w') := by
  by_cases h : wrap32 d1 < wrap32 d0
  · exact min_w_n s es d0 d1 d2 p0 p1 q0 q1 r0 r1 h
  · exact min_w_p s es d0 d1 d2 p0 p1 q0 q1 r0 r1 h
set_option maxRecDepth 100000 in
set_option maxHeartbeats 4000000 in
theorem max_w_n (s : ByteArray) (es : s.toList = [109, 97, 120]) (d0 d1 d2 : Int) (p0 : 0 ≤ d0) (p1 : d0 < 4294967296) (q0 : 0 ≤ d1) (q1 : d1 < 4294967296) (r0 : 0 ≤ d2) (r1 : d2 < 4294967296) (h : wrap32 d0 < wrap32 d1) : ∃ R : Int, (∀ (w : World) (a n : Nat), n = 2 → w.cell? ⟨a, 0, none⟩ = some (.int .u32 d0) → (2 ≤ n → w.cell? ⟨a, 1, none⟩ = some (.int .u32 d1)) → (3 ≤ n → w.cell? ⟨a, 2, none⟩ = some (.int .u32 d2)) → Calls Tryd.prog 9 #[.string s, .bool false, .slice (some ⟨a, 0, none⟩) n n] w fun e w' => e = .returned (.int .u32 R) ∧ Below w.heap.size w w') ∧ (∀ w : World, Forms w → Calls Tryd.prog 11 #[.string s, .agg #[.int .u32 d0, .int .u32 d1, .int .u32 d2]] w fun e w' => e = .returned (.int .u32 R) ∧ Below w.heap.size w w') := by
  have f0 : (s.toList == [97, 98, 115]) = false := by rw [es]; rfl
  have f1 : (s.toList == [109, 105, 110]) = false := by rw [es]; rfl
  have f2 : (s.toList == [109, 97, 120]) = true := by rw [es]; rfl
  have f3 : (s.toList == [102, 109, 97]) = false := by rw [es]; rfl
  have f4 : (s.toList == [115, 113, 114, 116]) = false := by rw [es]; rfl
  have f5 : (s.toList == [102, 108, 111, 97, 116]) = false := by rw [es]; rfl
  have f6 : (s.toList == [105, 110, 116]) = false := by rw [es]; rfl
  clear es
  have e1 := wrap_w32 d0
  have e2 := wrap_w32 d1
  obtain ⟨y0, hy0⟩ : ∃ y, wrap32 d0 = y := ⟨_, rfl⟩
  obtain ⟨y1, hy1⟩ : ∃ y, wrap32 d1 = y := ⟨_, rfl⟩
  rw [hy0] at e1 h
  rw [hy1] at e2 h
  refine ⟨d1, fun w a n hn c0 c1 c2 => ?_, fun w G => ?_⟩
  · subst hn
    have c1 := c1 (by omega)
    clear c2
    go_enter Tryd.func9, Tryd.ntmps9
    go_wp2
    all_goals
      go_ret
      refine ⟨?_, Below.refl _ _⟩
      first | rfl | ((show Ending.returned (Value.int .u32 _) = Ending.returned (Value.int .u32 _)); congr 2; first | omega | (unfold wrap32 at *; omega))
  · have bx : Below w.heap.size w (w.alloc (.cells #[.int .u32 d0, .int .u32 d1, .int .u32 d2] 30)) := (Below.refl _ _).alloc (Nat.le_refl _) _
    have G1 := G.below bx
    go_enter Tryd.func11, Tryd.ntmps11
    go_wp2
    go_quiet (fail)
    go_wp2
    all_goals
      go_ret
      refine ⟨?_, below_drewN bx _⟩
      first | rfl | ((show Ending.returned (Value.int .u32 _) = Ending.returned (Value.int .u32 _)); congr 2; first | omega | (unfold wrap32 at *; omega))
set_option maxRecDepth 100000 in
set_option maxHeartbeats 4000000 in
theorem max_w_p (s : ByteArray) (es : s.toList = [109, 97, 120]) (d0 d1 d2 : Int) (p0 : 0 ≤ d0) (p1 : d0 < 4294967296) (q0 : 0 ≤ d1) (q1 : d1 < 4294967296) (r0 : 0 ≤ d2) (r1 : d2 < 4294967296) (h : ¬ wrap32 d0 < wrap32 d1) : ∃ R : Int, (∀ (w : World) (a n : Nat), n = 2 → w.cell? ⟨a, 0, none⟩ = some (.int .u32 d0) → (2 ≤ n → w.cell? ⟨a, 1, none⟩ = some (.int .u32 d1)) → (3 ≤ n → w.cell? ⟨a, 2, none⟩ = some (.int .u32 d2)) → Calls Tryd.prog 9 #[.string s, .bool false, .slice (some ⟨a, 0, none⟩) n n] w fun e w' => e = .returned (.int .u32 R) ∧ Below w.heap.size w w') ∧ (∀ w : World, Forms w → Calls Tryd.prog 11 #[.string s, .agg #[.int .u32 d0, .int .u32 d1, .int .u32 d2]] w fun e w' => e = .returned (.int .u32 R) ∧ Below w.heap.size w w') := by
  have f0 : (s.toList == [97, 98, 115]) = false := by rw [es]; rfl
  have f1 : (s.toList == [109, 105, 110]) = false := by rw [es]; rfl
  have f2 : (s.toList == [109, 97, 120]) = true := by rw [es]; rfl
  have f3 : (s.toList == [102, 109, 97]) = false := by rw [es]; rfl
  have f4 : (s.toList == [115, 113, 114, 116]) = false := by rw [es]; rfl
  have f5 : (s.toList == [102, 108, 111, 97, 116]) = false := by rw [es]; rfl
  have f6 : (s.toList == [105, 110, 116]) = false := by rw [es]; rfl
  clear es
  have e1 := wrap_w32 d0
  have e2 := wrap_w32 d1
  obtain ⟨y0, hy0⟩ : ∃ y, wrap32 d0 = y := ⟨_, rfl⟩
  obtain ⟨y1, hy1⟩ : ∃ y, wrap32 d1 = y := ⟨_, rfl⟩
  rw [hy0] at e1 h
  rw [hy1] at e2 h
  refine ⟨d0, fun w a n hn c0 c1 c2 => ?_, fun w G => ?_⟩
  · subst hn
    have c1 := c1 (by omega)
    clear c2
    go_enter Tryd.func9, Tryd.ntmps9
    go_wp2
    all_goals
      go_ret
      refine ⟨?_, Below.refl _ _⟩
      first | rfl | ((show Ending.returned (Value.int .u32 _) = Ending.returned (Value.int .u32 _)); congr 2; first | omega | (unfold wrap32 at *; omega))
  · have bx : Below w.heap.size w (w.alloc (.cells #[.int .u32 d0, .int .u32 d1, .int .u32 d2] 30)) := (Below.refl _ _).alloc (Nat.le_refl _) _
    have G1 := G.below bx
    go_enter Tryd.func11, Tryd.ntmps11
    go_wp2
    go_quiet (fail)
    go_wp2
    all_goals
      go_ret
      refine ⟨?_, below_drewN bx _⟩
      first | rfl | ((show Ending.returned (Value.int .u32 _) = Ending.returned (Value.int .u32 _)); congr 2; first | omega | (unfold wrap32 at *; omega))
theorem max_w (s : ByteArray) (es : s.toList = [109, 97, 120]) (d0 d1 d2 : Int) (p0 : 0 ≤ d0) (p1 : d0 < 4294967296) (q0 : 0 ≤ d1) (q1 : d1 < 4294967296) (r0 : 0 ≤ d2) (r1 : d2 < 4294967296) : ∃ R : Int, (∀ (w : World) (a n : Nat), n = 2 → w.cell? ⟨a, 0, none⟩ = some (.int .u32 d0) → (2 ≤ n → w.cell? ⟨a, 1, none⟩ = some (.int .u32 d1)) → (3 ≤ n → w.cell? ⟨a, 2, none⟩ = some (.int .u32 d2)) → Calls Tryd.prog 9 #[.string s, .bool false, .slice (some ⟨a, 0, none⟩) n n] w fun e w' => e = .returned (.int .u32 R) ∧ Below w.heap.size w w') ∧ (∀ w : World, Forms w → Calls Tryd.prog 11 #[.string s, .agg #[.int .u32 d0, .int .u32 d1, .int .u32 d2]] w fun e w' => e = .returned (.int .u32 R) ∧ Below w.heap.size w w') := by
  by_cases h : wrap32 d0 < wrap32 d1
  · exact max_w_n s es d0 d1 d2 p0 p1 q0 q1 r0 r1 h
  · exact max_w_p s es d0 d1 d2 p0 p1 q0 q1 r0 r1 h
set_option maxRecDepth 100000 in
set_option maxHeartbeats 4000000 in
theorem min_f_a (s : ByteArray) (es : s.toList = [109, 105, 110]) (d0 d1 d2 : Int) (p0 : 0 ≤ d0) (p1 : d0 < 4294967296) (q0 : 0 ≤ d1) (q1 : d1 < 4294967296) (r0 : 0 ≤ d2) (r1 : d2 < 4294967296) (h : 2139095040 < d0 % 2147483648) : ∃ R : Int, (∀ (w : World) (a n : Nat), n = 2 → w.cell? ⟨a, 0, none⟩ = some (.int .u32 d0) → (2 ≤ n → w.cell? ⟨a, 1, none⟩ = some (.int .u32 d1)) → (3 ≤ n → w.cell? ⟨a, 2, none⟩ = some (.int .u32 d2)) → Calls Tryd.prog 9 #[.string s, .bool true, .slice (some ⟨a, 0, none⟩) n n] w fun e w' => e = .returned (.int .u32 R) ∧ Below w.heap.size w w') ∧ (∀ w : World, Forms w → Calls Tryd.prog 12 #[.string s, .agg #[.int .u32 d0, .int .u32 d1, .int .u32 d2]] w fun e w' => e = .returned (.int .u32 R) ∧ Below w.heap.size w w') := by
  have f0 : (s.toList == [97, 98, 115]) = false := by rw [es]; rfl
  have f1 : (s.toList == [109, 105, 110]) = true := by rw [es]; rfl
  have f2 : (s.toList == [109, 97, 120]) = false := by rw [es]; rfl
  have f3 : (s.toList == [102, 109, 97]) = false := by rw [es]; rfl
  have f4 : (s.toList == [115, 113, 114, 116]) = false := by rw [es]; rfl
  have f5 : (s.toList == [102, 108, 111, 97, 116]) = false := by rw [es]; rfl
  have f6 : (s.toList == [105, 110, 116]) = false := by rw [es]; rfl
  clear es
  have hn0 := sNaN_any d0 p0 p1
  have hn1 := sNaN_any d1 q0 q1
  have eC : Cm.cmpI d1 d0 = 2 := by
    unfold Cm.cmpI; rw [if_pos (by omega)]
  rw [decide_eq_true (by omega)] at hn0
  have H14 : Hid (∀ w : World, Calls Tryd.prog 14 #[.int .u32 d1, .int .u32 d0] w fun e w' => e = .returned (.int .i64 (2)) ∧ w' = w) := fun w => by
    have h := sCmp14 d1 d0 q0 q1 p0 p1 w
    rw [eC] at h
    exact h
  have H21 : Hid (∀ w : World, Calls Tryd.prog 21 #[.int .u32 d0, .int .u32 d1, .int .i64 (-1)] w fun e w' => e = .returned (.int .u32 (2143289344)) ∧ w' = w) := fun w => by
    have h := chosen21 d0 d1 (-1) p0 p1 q0 q1 w
    rw [eC] at h
    exact h
  clear eC h
  refine ⟨2143289344, fun w a n hn c0 c1 c2 => ?_, fun w G => ?_⟩
  · subst hn
    have c1 := c1 (by omega)
    clear c2
    go_enter Tryd.func9, Tryd.ntmps9
    go_wp2_with (first | (go_at_call 13; (with_reducible show Calls Tryd.prog 13 #[.int .u32 d0] _ _); refine (hn0 _).mono ?_; rintro e w1 ⟨rfl, hw1⟩; subst w1) | (go_at_call 13; (with_reducible show Calls Tryd.prog 13 #[.int .u32 d1] _ _); refine (hn1 _).mono ?_; rintro e w1 ⟨rfl, hw1⟩; subst w1) | (go_at_call 14; refine (H14.out _).mono ?_; rintro e w1 ⟨rfl, hw1⟩; subst w1))
    go_ret
    exact ⟨rfl, Below.refl _ _⟩
  · have bx : Below w.heap.size w (w.alloc (.cells #[.int .u32 d0, .int .u32 d1, .int .u32 d2] 30)) := (Below.refl _ _).alloc (Nat.le_refl _) _
    have G1 := G.below bx
    go_enter Tryd.func12, Tryd.ntmps12
    go_wp2
    go_quiet (fail)
    go_wp2_with (go_at_call 21; refine (H21.out _).mono ?_; rintro e w1 ⟨rfl, hw1⟩; subst w1)
    go_ret
    exact ⟨rfl, below_drewN bx _⟩
set_option maxRecDepth 100000 in
set_option maxHeartbeats 4000000 in
theorem min_f_b (s : ByteArray) (es : s.toList = [109, 105, 110]) (d0 d1 d2 : Int) (p0 : 0 ≤ d0) (p1 : d0 < 4294967296) (q0 : 0 ≤ d1) (q1 : d1 < 4294967296) (r0 : 0 ≤ d2) (r1 : d2 < 4294967296) (h : ¬ 2139095040 < d0 % 2147483648 ∧ 2139095040 < d1 % 2147483648) : ∃ R : Int, (∀ (w : World) (a n : Nat), n = 2 → w.cell? ⟨a, 0, none⟩ = some (.int .u32 d0) → (2 ≤ n → w.cell? ⟨a, 1, none⟩ = some (.int .u32 d1)) → (3 ≤ n → w.cell? ⟨a, 2, none⟩ = some (.int .u32 d2)) → Calls Tryd.prog 9 #[.string s, .bool true, .slice (some ⟨a, 0, none⟩) n n] w fun e w' => e = .returned (.int .u32 R) ∧ Below w.heap.size w w') ∧ (∀ w : World, Forms w → Calls Tryd.prog 12 #[.string s, .agg #[.int .u32 d0, .int .u32 d1, .int .u32 d2]] w fun e w' => e = .returned (.int .u32 R) ∧ Below w.heap.size w w') := by
  have f0 : (s.toList == [97, 98, 115]) = false := by rw [es]; rfl
  have f1 : (s.toList == [109, 105, 110]) = true := by rw [es]; rfl
  have f2 : (s.toList == [109, 97, 120]) = false := by rw [es]; rfl
  have f3 : (s.toList == [102, 109, 97]) = false := by rw [es]; rfl
  have f4 : (s.toList == [115, 113, 114, 116]) = false := by rw [es]; rfl
  have f5 : (s.toList == [102, 108, 111, 97, 116]) = false := by rw [es]; rfl
  have f6 : (s.toList == [105, 110, 116]) = false := by rw [es]; rfl
  clear es
  have hn0 := sNaN_any d0 p0 p1
  have hn1 := sNaN_any d1 q0 q1
  have eC : Cm.cmpI d1 d0 = 2 := by
    unfold Cm.cmpI; rw [if_pos (by omega)]
  rw [decide_eq_false (by omega)] at hn0
  rw [decide_eq_true (by omega)] at hn1
  have H14 : Hid (∀ w : World, Calls Tryd.prog 14 #[.int .u32 d1, .int .u32 d0] w fun e w' => e = .returned (.int .i64 (2)) ∧ w' = w) := fun w => by
    have h := sCmp14 d1 d0 q0 q1 p0 p1 w
    rw [eC] at h
    exact h
  have H21 : Hid (∀ w : World, Calls Tryd.prog 21 #[.int .u32 d0, .int .u32 d1, .int .i64 (-1)] w fun e w' => e = .returned (.int .u32 (2143289344)) ∧ w' = w) := fun w => by
    have h := chosen21 d0 d1 (-1) p0 p1 q0 q1 w
    rw [eC] at h
    exact h
  clear eC h
  refine ⟨2143289344, fun w a n hn c0 c1 c2 => ?_, fun w G => ?_⟩
  · subst hn
    have c1 := c1 (by omega)
    clear c2
    go_enter Tryd.func9, Tryd.ntmps9
    go_wp2_with (first | (go_at_call 13; (with_reducible show Calls Tryd.prog 13 #[.int .u32 d0] _ _); refine (hn0 _).mono ?_; rintro e w1 ⟨rfl, hw1⟩; subst w1) | (go_at_call 13; (with_reducible show Calls Tryd.prog 13 #[.int .u32 d1] _ _); refine (hn1 _).mono ?_; rintro e w1 ⟨rfl, hw1⟩; subst w1) | (go_at_call 14; refine (H14.out _).mono ?_; rintro e w1 ⟨rfl, hw1⟩; subst w1))
    go_ret
    exact ⟨rfl, Below.refl _ _⟩
  · have bx : Below w.heap.size w (w.alloc (.cells #[.int .u32 d0, .int .u32 d1, .int .u32 d2] 30)) := (Below.refl _ _).alloc (Nat.le_refl _) _
    have G1 := G.below bx
    go_enter Tryd.func12, Tryd.ntmps12
    go_wp2
    go_quiet (fail)
    go_wp2_with (go_at_call 21; refine (H21.out _).mono ?_; rintro e w1 ⟨rfl, hw1⟩; subst w1)
    go_ret
    exact ⟨rfl, below_drewN bx _⟩
set_option maxRecDepth 100000 in
set_option maxHeartbeats 4000000 in
theorem min_f_c (s : ByteArray) (es : s.toList = [109, 105, 110]) (d0 d1 d2 : Int) (p0 : 0 ≤ d0) (p1 : d0 < 4294967296) (q0 : 0 ≤ d1) (q1 : d1 < 4294967296) (r0 : 0 ≤ d2) (r1 : d2 < 4294967296) (h : ¬ 2139095040 < d0 % 2147483648 ∧ ¬ 2139095040 < d1 % 2147483648 ∧ Cm.cmpI d1 d0 = -1) : ∃ R : Int, (∀ (w : World) (a n : Nat), n = 2 → w.cell? ⟨a, 0, none⟩ = some (.int .u32 d0) → (2 ≤ n → w.cell? ⟨a, 1, none⟩ = some (.int .u32 d1)) → (3 ≤ n → w.cell? ⟨a, 2, none⟩ = some (.int .u32 d2)) → Calls Tryd.prog 9 #[.string s, .bool true, .slice (some ⟨a, 0, none⟩) n n] w fun e w' => e = .returned (.int .u32 R) ∧ Below w.heap.size w w') ∧ (∀ w : World, Forms w → Calls Tryd.prog 12 #[.string s, .agg #[.int .u32 d0, .int .u32 d1, .int .u32 d2]] w fun e w' => e = .returned (.int .u32 R) ∧ Below w.heap.size w w') := by
  have f0 : (s.toList == [97, 98, 115]) = false := by rw [es]; rfl
  have f1 : (s.toList == [109, 105, 110]) = true := by rw [es]; rfl
  have f2 : (s.toList == [109, 97, 120]) = false := by rw [es]; rfl
  have f3 : (s.toList == [102, 109, 97]) = false := by rw [es]; rfl
  have f4 : (s.toList == [115, 113, 114, 116]) = false := by rw [es]; rfl
  have f5 : (s.toList == [102, 108, 111, 97, 116]) = false := by rw [es]; rfl
  have f6 : (s.toList == [105, 110, 116]) = false := by rw [es]; rfl
  clear es
  have hn0 := sNaN_any d0 p0 p1
  have hn1 := sNaN_any d1 q0 q1
  have eC : Cm.cmpI d1 d0 = -1 := by
    exact h.2.2
  rw [decide_eq_false (by omega)] at hn0
  rw [decide_eq_false (by omega)] at hn1
  have H14 : Hid (∀ w : World, Calls Tryd.prog 14 #[.int .u32 d1, .int .u32 d0] w fun e w' => e = .returned (.int .i64 (-1)) ∧ w' = w) := fun w => by
    have h := sCmp14 d1 d0 q0 q1 p0 p1 w
    rw [eC] at h
    exact h
  have H21 : Hid (∀ w : World, Calls Tryd.prog 21 #[.int .u32 d0, .int .u32 d1, .int .i64 (-1)] w fun e w' => e = .returned (.int .u32 (d1)) ∧ w' = w) := fun w => by
    have h := chosen21 d0 d1 (-1) p0 p1 q0 q1 w
    rw [eC] at h
    exact h
  clear eC h
  refine ⟨d1, fun w a n hn c0 c1 c2 => ?_, fun w G => ?_⟩
  · subst hn
    have c1 := c1 (by omega)
    clear c2
    go_enter Tryd.func9, Tryd.ntmps9
    go_wp2_with (first | (go_at_call 13; (with_reducible show Calls Tryd.prog 13 #[.int .u32 d0] _ _); refine (hn0 _).mono ?_; rintro e w1 ⟨rfl, hw1⟩; subst w1) | (go_at_call 13; (with_reducible show Calls Tryd.prog 13 #[.int .u32 d1] _ _); refine (hn1 _).mono ?_; rintro e w1 ⟨rfl, hw1⟩; subst w1) | (go_at_call 14; refine (H14.out _).mono ?_; rintro e w1 ⟨rfl, hw1⟩; subst w1))
    go_ret
    exact ⟨rfl, Below.refl _ _⟩
  · have bx : Below w.heap.size w (w.alloc (.cells #[.int .u32 d0, .int .u32 d1, .int .u32 d2] 30)) := (Below.refl _ _).alloc (Nat.le_refl _) _
    have G1 := G.below bx
    go_enter Tryd.func12, Tryd.ntmps12
    go_wp2
    go_quiet (fail)
    go_wp2_with (go_at_call 21; refine (H21.out _).mono ?_; rintro e w1 ⟨rfl, hw1⟩; subst w1)
    go_ret
    exact ⟨rfl, below_drewN bx _⟩
set_option maxRecDepth 100000 in
set_option maxHeartbeats 4000000 in
theorem min_f_d (s : ByteArray) (es : s.toList = [109, 105, 110]) (d0 d1 d2 : Int) (p0 : 0 ≤ d0) (p1 : d0 < 4294967296) (q0 : 0 ≤ d1) (q1 : d1 < 4294967296) (r0 : 0 ≤ d2) (r1 : d2 < 4294967296) (h : ¬ 2139095040 < d0 % 2147483648 ∧ ¬ 2139095040 < d1 % 2147483648 ∧ Cm.cmpI d1 d0 = 0) : ∃ R : Int, (∀ (w : World) (a n : Nat), n = 2 → w.cell? ⟨a, 0, none⟩ = some (.int .u32 d0) → (2 ≤ n → w.cell? ⟨a, 1, none⟩ = some (.int .u32 d1)) → (3 ≤ n → w.cell? ⟨a, 2, none⟩ = some (.int .u32 d2)) → Calls Tryd.prog 9 #[.string s, .bool true, .slice (some ⟨a, 0, none⟩) n n] w fun e w' => e = .returned (.int .u32 R) ∧ Below w.heap.size w w') ∧ (∀ w : World, Forms w → Calls Tryd.prog 12 #[.string s, .agg #[.int .u32 d0, .int .u32 d1, .int .u32 d2]] w fun e w' => e = .returned (.int .u32 R) ∧ Below w.heap.size w w') := by
  have f0 : (s.toList == [97, 98, 115]) = false := by rw [es]; rfl
  have f1 : (s.toList == [109, 105, 110]) = true := by rw [es]; rfl
  have f2 : (s.toList == [109, 97, 120]) = false := by rw [es]; rfl
  have f3 : (s.toList == [102, 109, 97]) = false := by rw [es]; rfl
  have f4 : (s.toList == [115, 113, 114, 116]) = false := by rw [es]; rfl
  have f5 : (s.toList == [102, 108, 111, 97, 116]) = false := by rw [es]; rfl
  have f6 : (s.toList == [105, 110, 116]) = false := by rw [es]; rfl
  clear es
  have hn0 := sNaN_any d0 p0 p1
  have hn1 := sNaN_any d1 q0 q1
  have eC : Cm.cmpI d1 d0 = 0 := by
    exact h.2.2
  rw [decide_eq_false (by omega)] at hn0
  rw [decide_eq_false (by omega)] at hn1
  have H14 : Hid (∀ w : World, Calls Tryd.prog 14 #[.int .u32 d1, .int .u32 d0] w fun e w' => e = .returned (.int .i64 (0)) ∧ w' = w) := fun w => by
    have h := sCmp14 d1 d0 q0 q1 p0 p1 w
    rw [eC] at h
    exact h
  have H21 : Hid (∀ w : World, Calls Tryd.prog 21 #[.int .u32 d0, .int .u32 d1, .int .i64 (-1)] w fun e w' => e = .returned (.int .u32 (d0)) ∧ w' = w) := fun w => by
    have h := chosen21 d0 d1 (-1) p0 p1 q0 q1 w
    rw [eC] at h
    exact h
  clear eC h
  refine ⟨d0, fun w a n hn c0 c1 c2 => ?_, fun w G => ?_⟩
  · subst hn
    have c1 := c1 (by omega)
    clear c2
    go_enter Tryd.func9, Tryd.ntmps9
    go_wp2_with (first | (go_at_call 13; (with_reducible show Calls Tryd.prog 13 #[.int .u32 d0] _ _); refine (hn0 _).mono ?_; rintro e w1 ⟨rfl, hw1⟩; subst w1) | (go_at_call 13; (with_reducible show Calls Tryd.prog 13 #[.int .u32 d1] _ _); refine (hn1 _).mono ?_; rintro e w1 ⟨rfl, hw1⟩; subst w1) | (go_at_call 14; refine (H14.out _).mono ?_; rintro e w1 ⟨rfl, hw1⟩; subst w1))
    go_ret
    exact ⟨rfl, Below.refl _ _⟩
  · have bx : Below w.heap.size w (w.alloc (.cells #[.int .u32 d0, .int .u32 d1, .int .u32 d2] 30)) := (Below.refl _ _).alloc (Nat.le_refl _) _
    have G1 := G.below bx
    go_enter Tryd.func12, Tryd.ntmps12
    go_wp2
    go_quiet (fail)
    go_wp2_with (go_at_call 21; refine (H21.out _).mono ?_; rintro e w1 ⟨rfl, hw1⟩; subst w1)
    go_ret
    exact ⟨rfl, below_drewN bx _⟩
set_option maxRecDepth 100000 in
set_option maxHeartbeats 4000000 in
theorem min_f_e (s : ByteArray) (es : s.toList = [109, 105, 110]) (d0 d1 d2 : Int) (p0 : 0 ≤ d0) (p1 : d0 < 4294967296) (q0 : 0 ≤ d1) (q1 : d1 < 4294967296) (r0 : 0 ≤ d2) (r1 : d2 < 4294967296) (h : ¬ 2139095040 < d0 % 2147483648 ∧ ¬ 2139095040 < d1 % 2147483648 ∧ Cm.cmpI d1 d0 = 1) : ∃ R : Int, (∀ (w : World) (a n : Nat), n = 2 → w.cell? ⟨a, 0, none⟩ = some (.int .u32 d0) → (2 ≤ n → w.cell? ⟨a, 1, none⟩ = some (.int .u32 d1)) → (3 ≤ n → w.cell? ⟨a, 2, none⟩ = some (.int .u32 d2)) → Calls Tryd.prog 9 #[.string s, .bool true, .slice (some ⟨a, 0, none⟩) n n] w fun e w' => e = .returned (.int .u32 R) ∧ Below w.heap.size w w') ∧ (∀ w : World, Forms w → Calls Tryd.prog 12 #[.string s, .agg #[.int .u32 d0, .int .u32 d1, .int .u32 d2]] w fun e w' => e = .returned (.int .u32 R) ∧ Below w.heap.size w w') := by
  have f0 : (s.toList == [97, 98, 115]) = false := by rw [es]; rfl
  have f1 : (s.toList == [109, 105, 110]) = true := by rw [es]; rfl
  have f2 : (s.toList == [109, 97, 120]) = false := by rw [es]; rfl
  have f3 : (s.toList == [102, 109, 97]) = false := by rw [es]; rfl
  have f4 : (s.toList == [115, 113, 114, 116]) = false := by rw [es]; rfl
  have f5 : (s.toList == [102, 108, 111, 97, 116]) = false := by rw [es]; rfl
  have f6 : (s.toList == [105, 110, 116]) = false := by rw [es]; rfl
  clear es
  have hn0 := sNaN_any d0 p0 p1
  have hn1 := sNaN_any d1 q0 q1
  have eC : Cm.cmpI d1 d0 = 1 := by
    exact h.2.2
  rw [decide_eq_false (by omega)] at hn0
  rw [decide_eq_false (by omega)] at hn1
  have H14 : Hid (∀ w : World, Calls Tryd.prog 14 #[.int .u32 d1, .int .u32 d0] w fun e w' => e = .returned (.int .i64 (1)) ∧ w' = w) := fun w => by
    have h := sCmp14 d1 d0 q0 q1 p0 p1 w
    rw [eC] at h
    exact h
  have H21 : Hid (∀ w : World, Calls Tryd.prog 21 #[.int .u32 d0, .int .u32 d1, .int .i64 (-1)] w fun e w' => e = .returned (.int .u32 (d0)) ∧ w' = w) := fun w => by
    have h := chosen21 d0 d1 (-1) p0 p1 q0 q1 w
    rw [eC] at h
    exact h
  clear eC h
  refine ⟨d0, fun w a n hn c0 c1 c2 => ?_, fun w G => ?_⟩
  · subst hn
    have c1 := c1 (by omega)
    clear c2
    go_enter Tryd.func9, Tryd.ntmps9
    go_wp2_with (first | (go_at_call 13; (with_reducible show Calls Tryd.prog 13 #[.int .u32 d0] _ _); refine (hn0 _).mono ?_; rintro e w1 ⟨rfl, hw1⟩; subst w1) | (go_at_call 13; (with_reducible show Calls Tryd.prog 13 #[.int .u32 d1] _ _); refine (hn1 _).mono ?_; rintro e w1 ⟨rfl, hw1⟩; subst w1) | (go_at_call 14; refine (H14.out _).mono ?_; rintro e w1 ⟨rfl, hw1⟩; subst w1))
    go_ret
    exact ⟨rfl, Below.refl _ _⟩
  · have bx : Below w.heap.size w (w.alloc (.cells #[.int .u32 d0, .int .u32 d1, .int .u32 d2] 30)) := (Below.refl _ _).alloc (Nat.le_refl _) _
    have G1 := G.below bx
    go_enter Tryd.func12, Tryd.ntmps12
    go_wp2
    go_quiet (fail)
    go_wp2_with (go_at_call 21; refine (H21.out _).mono ?_; rintro e w1 ⟨rfl, hw1⟩; subst w1)
    go_ret
    exact ⟨rfl, below_drewN bx _⟩
theorem min_f (s : ByteArray) (es : s.toList = [109, 105, 110]) (d0 d1 d2 : Int) (p0 : 0 ≤ d0) (p1 : d0 < 4294967296) (q0 : 0 ≤ d1) (q1 : d1 < 4294967296) (r0 : 0 ≤ d2) (r1 : d2 < 4294967296) : ∃ R : Int, (∀ (w : World) (a n : Nat), n = 2 → w.cell? ⟨a, 0, none⟩ = some (.int .u32 d0) → (2 ≤ n → w.cell? ⟨a, 1, none⟩ = some (.int .u32 d1)) → (3 ≤ n → w.cell? ⟨a, 2, none⟩ = some (.int .u32 d2)) → Calls Tryd.prog 9 #[.string s, .bool true, .slice (some ⟨a, 0, none⟩) n n] w fun e w' => e = .returned (.int .u32 R) ∧ Below w.heap.size w w') ∧ (∀ w : World, Forms w → Calls Tryd.prog 12 #[.string s, .agg #[.int .u32 d0, .int .u32 d1, .int .u32 d2]] w fun e w' => e = .returned (.int .u32 R) ∧ Below w.heap.size w w') := by
  by_cases hA : 2139095040 < d0 % 2147483648
  · exact min_f_a s es d0 d1 d2 p0 p1 q0 q1 r0 r1 hA
  by_cases hB : 2139095040 < d1 % 2147483648
  · exact min_f_b s es d0 d1 d2 p0 p1 q0 q1 r0 r1 ⟨hA, hB⟩
  by_cases hc : Cm.keyI d1 < Cm.keyI d0
  · exact min_f_c s es d0 d1 d2 p0 p1 q0 q1 r0 r1 ⟨hA, hB, by unfold Cm.cmpI; rw [if_neg (by omega), if_pos hc]⟩
  by_cases hd : Cm.keyI d0 < Cm.keyI d1
  · exact min_f_e s es d0 d1 d2 p0 p1 q0 q1 r0 r1 ⟨hA, hB, by unfold Cm.cmpI; rw [if_neg (by omega), if_neg hc, if_pos hd]⟩
  · exact min_f_d s es d0 d1 d2 p0 p1 q0 q1 r0 r1 ⟨hA, hB, by unfold Cm.cmpI; rw [if_neg (by omega), if_neg hc, if_neg hd]⟩
set_option maxRecDepth 100000 in
set_option maxHeartbeats 4000000 in
theorem max_f_a (s : ByteArray) (es : s.toList = [109, 97, 120]) (d0 d1 d2 : Int) (p0 : 0 ≤ d0) (p1 : d0 < 4294967296) (q0 : 0 ≤ d1) (q1 : d1 < 4294967296) (r0 : 0 ≤ d2) (r1 : d2 < 4294967296) (h : 2139095040 < d0 % 2147483648) : ∃ R : Int, (∀ (w : World) (a n : Nat), n = 2 → w.cell? ⟨a, 0, none⟩ = some (.int .u32 d0) → (2 ≤ n → w.cell? ⟨a, 1, none⟩ = some (.int .u32 d1)) → (3 ≤ n → w.cell? ⟨a, 2, none⟩ = some (.int .u32 d2)) → Calls Tryd.prog 9 #[.string s, .bool true, .slice (some ⟨a, 0, none⟩) n n] w fun e w' => e = .returned (.int .u32 R) ∧ Below w.heap.size w w') ∧ (∀ w : World, Forms w → Calls Tryd.prog 12 #[.string s, .agg #[.int .u32 d0, .int .u32 d1, .int .u32 d2]] w fun e w' => e = .returned (.int .u32 R) ∧ Below w.heap.size w w') := by
  have f0 : (s.toList == [97, 98, 115]) = false := by rw [es]; rfl
  have f1 : (s.toList == [109, 105, 110]) = false := by rw [es]; rfl
  have f2 : (s.toList == [109, 97, 120]) = true := by rw [es]; rfl
  have f3 : (s.toList == [102, 109, 97]) = false := by rw [es]; rfl
  have f4 : (s.toList == [115, 113, 114, 116]) = false := by rw [es]; rfl
  have f5 : (s.toList == [102, 108, 111, 97, 116]) = false := by rw [es]; rfl
  have f6 : (s.toList == [105, 110, 116]) = false := by rw [es]; rfl
  clear es
  have hn0 := sNaN_any d0 p0 p1
  have hn1 := sNaN_any d1 q0 q1
  have eC : Cm.cmpI d1 d0 = 2 := by
    unfold Cm.cmpI; rw [if_pos (by omega)]
  rw [decide_eq_true (by omega)] at hn0
  have H14 : Hid (∀ w : World, Calls Tryd.prog 14 #[.int .u32 d1, .int .u32 d0] w fun e w' => e = .returned (.int .i64 (2)) ∧ w' = w) := fun w => by
    have h := sCmp14 d1 d0 q0 q1 p0 p1 w
    rw [eC] at h
    exact h
  have H21 : Hid (∀ w : World, Calls Tryd.prog 21 #[.int .u32 d0, .int .u32 d1, .int .i64 (1)] w fun e w' => e = .returned (.int .u32 (2143289344)) ∧ w' = w) := fun w => by
    have h := chosen21 d0 d1 (1) p0 p1 q0 q1 w
    rw [eC] at h
    exact h
  clear eC h
  refine ⟨2143289344, fun w a n hn c0 c1 c2 => ?_, fun w G => ?_⟩
  · subst hn
    have c1 := c1 (by omega)
    clear c2
    go_enter Tryd.func9, Tryd.ntmps9
    go_wp2_with (first | (go_at_call 13; (with_reducible show Calls Tryd.prog 13 #[.int .u32 d0] _ _); refine (hn0 _).mono ?_; rintro e w1 ⟨rfl, hw1⟩; subst w1) | (go_at_call 13; (with_reducible show Calls Tryd.prog 13 #[.int .u32 d1] _ _); refine (hn1 _).mono ?_; rintro e w1 ⟨rfl, hw1⟩; subst w1) | (go_at_call 14; refine (H14.out _).mono ?_; rintro e w1 ⟨rfl, hw1⟩; subst w1))
    go_ret
    exact ⟨rfl, Below.refl _ _⟩
  · have bx : Below w.heap.size w (w.alloc (.cells #[.int .u32 d0, .int .u32 d1, .int .u32 d2] 30)) := (Below.refl _ _).alloc (Nat.le_refl _) _
    have G1 := G.below bx
    go_enter Tryd.func12, Tryd.ntmps12
    go_wp2
    go_quiet (fail)
    go_wp2_with (go_at_call 21; refine (H21.out _).mono ?_; rintro e w1 ⟨rfl, hw1⟩; subst w1)
    go_ret
    exact ⟨rfl, below_drewN bx _⟩
set_option maxRecDepth 100000 in
set_option maxHeartbeats 4000000 in
theorem max_f_b (s : ByteArray) (es : s.toList = [109, 97, 120]) (d0 d1 d2 : Int) (p0 : 0 ≤ d0) (p1 : d0 < 4294967296) (q0 : 0 ≤ d1) (q1 : d1 < 4294967296) (r0 : 0 ≤ d2) (r1 : d2 < 4294967296) (h : ¬ 2139095040 < d0 % 2147483648 ∧ 2139095040 < d1 % 2147483648) : ∃ R : Int, (∀ (w : World) (a n : Nat), n = 2 → w.cell? ⟨a, 0, none⟩ = some (.int .u32 d0) → (2 ≤ n → w.cell? ⟨a, 1, none⟩ = some (.int .u32 d1)) → (3 ≤ n → w.cell? ⟨a, 2, none⟩ = some (.int .u32 d2)) → Calls Tryd.prog 9 #[.string s, .bool true, .slice (some ⟨a, 0, none⟩) n n] w fun e w' => e = .returned (.int .u32 R) ∧ Below w.heap.size w w') ∧ (∀ w : World, Forms w → Calls Tryd.prog 12 #[.string s, .agg #[.int .u32 d0, .int .u32 d1, .int .u32 d2]] w fun e w' => e = .returned (.int .u32 R) ∧ Below w.heap.size w w') := by
  have f0 : (s.toList == [97, 98, 115]) = false := by rw [es]; rfl
  have f1 : (s.toList == [109, 105, 110]) = false := by rw [es]; rfl
  have f2 : (s.toList == [109, 97, 120]) = true := by rw [es]; rfl
  have f3 : (s.toList == [102, 109, 97]) = false := by rw [es]; rfl
  have f4 : (s.toList == [115, 113, 114, 116]) = false := by rw [es]; rfl
  have f5 : (s.toList == [102, 108, 111, 97, 116]) = false := by rw [es]; rfl
  have f6 : (s.toList == [105, 110, 116]) = false := by rw [es]; rfl
  clear es
  have hn0 := sNaN_any d0 p0 p1
  have hn1 := sNaN_any d1 q0 q1
  have eC : Cm.cmpI d1 d0 = 2 := by
    unfold Cm.cmpI; rw [if_pos (by omega)]
  rw [decide_eq_false (by omega)] at hn0
  rw [decide_eq_true (by omega)] at hn1
  have H14 : Hid (∀ w : World, Calls Tryd.prog 14 #[.int .u32 d1, .int .u32 d0] w fun e w' => e = .returned (.int .i64 (2)) ∧ w' = w) := fun w => by
    have h := sCmp14 d1 d0 q0 q1 p0 p1 w
    rw [eC] at h
    exact h
  have H21 : Hid (∀ w : World, Calls Tryd.prog 21 #[.int .u32 d0, .int .u32 d1, .int .i64 (1)] w fun e w' => e = .returned (.int .u32 (2143289344)) ∧ w' = w) := fun w => by
    have h := chosen21 d0 d1 (1) p0 p1 q0 q1 w
    rw [eC] at h
    exact h
  clear eC h
  refine ⟨2143289344, fun w a n hn c0 c1 c2 => ?_, fun w G => ?_⟩
  · subst hn
    have c1 := c1 (by omega)
    clear c2
    go_enter Tryd.func9, Tryd.ntmps9
    go_wp2_with (first | (go_at_call 13; (with_reducible show Calls Tryd.prog 13 #[.int .u32 d0] _ _); refine (hn0 _).mono ?_; rintro e w1 ⟨rfl, hw1⟩; subst w1) | (go_at_call 13; (with_reducible show Calls Tryd.prog 13 #[.int .u32 d1] _ _); refine (hn1 _).mono ?_; rintro e w1 ⟨rfl, hw1⟩; subst w1) | (go_at_call 14; refine (H14.out _).mono ?_; rintro e w1 ⟨rfl, hw1⟩; subst w1))
    go_ret
    exact ⟨rfl, Below.refl _ _⟩
  · have bx : Below w.heap.size w (w.alloc (.cells #[.int .u32 d0, .int .u32 d1, .int .u32 d2] 30)) := (Below.refl _ _).alloc (Nat.le_refl _) _
    have G1 := G.below bx
    go_enter Tryd.func12, Tryd.ntmps12
    go_wp2
    go_quiet (fail)
    go_wp2_with (go_at_call 21; refine (H21.out _).mono ?_; rintro e w1 ⟨rfl, hw1⟩; subst w1)
    go_ret
    exact ⟨rfl, below_drewN bx _⟩
set_option maxRecDepth 100000 in
set_option maxHeartbeats 4000000 in
theorem max_f_c (s : ByteArray) (es : s.toList = [109, 97, 120]) (d0 d1 d2 : Int) (p0 : 0 ≤ d0) (p1 : d0 < 4294967296) (q0 : 0 ≤ d1) (q1 : d1 < 4294967296) (r0 : 0 ≤ d2) (r1 : d2 < 4294967296) (h : ¬ 2139095040 < d0 % 2147483648 ∧ ¬ 2139095040 < d1 % 2147483648 ∧ Cm.cmpI d1 d0 = -1) : ∃ R : Int, (∀ (w : World) (a n : Nat), n = 2 → w.cell? ⟨a, 0, none⟩ = some (.int .u32 d0) → (2 ≤ n → w.cell? ⟨a, 1, none⟩ = some (.int .u32 d1)) → (3 ≤ n → w.cell? ⟨a, 2, none⟩ = some (.int .u32 d2)) → Calls Tryd.prog 9 #[.string s, .bool true, .slice (some ⟨a, 0, none⟩) n n] w fun e w' => e = .returned (.int .u32 R) ∧ Below w.heap.size w w') ∧ (∀ w : World, Forms w → Calls Tryd.prog 12 #[.string s, .agg #[.int .u32 d0, .int .u32 d1, .int .u32 d2]] w fun e w' => e = .returned (.int .u32 R) ∧ Below w.heap.size w w') := by
  have f0 : (s.toList == [97, 98, 115]) = false := by rw [es]; rfl
  have f1 : (s.toList == [109, 105, 110]) = false := by rw [es]; rfl
  have f2 : (s.toList == [109, 97, 120]) = true := by rw [es]; rfl
  have f3 : (s.toList == [102, 109, 97]) = false := by rw [es]; rfl
  have f4 : (s.toList == [115, 113, 114, 116]) = false := by rw [es]; rfl
  have f5 : (s.toList == [102, 108, 111, 97, 116]) = false := by rw [es]; rfl
  have f6 : (s.toList == [105, 110, 116]) = false := by rw [es]; rfl
  clear es
  have hn0 := sNaN_any d0 p0 p1
  have hn1 := sNaN_any d1 q0 q1
  have eC : Cm.cmpI d1 d0 = -1 := by
    exact h.2.2
  rw [decide_eq_false (by omega)] at hn0
  rw [decide_eq_false (by omega)] at hn1
  have H14 : Hid (∀ w : World, Calls Tryd.prog 14 #[.int .u32 d1, .int .u32 d0] w fun e w' => e = .returned (.int .i64 (-1)) ∧ w' = w) := fun w => by
    have h := sCmp14 d1 d0 q0 q1 p0 p1 w
    rw [eC] at h
    exact h
  have H21 : Hid (∀ w : World, Calls Tryd.prog 21 #[.int .u32 d0, .int .u32 d1, .int .i64 (1)] w fun e w' => e = .returned (.int .u32 (d0)) ∧ w' = w) := fun w => by
    have h := chosen21 d0 d1 (1) p0 p1 q0 q1 w
    rw [eC] at h
    exact h
  clear eC h
  refine ⟨d0, fun w a n hn c0 c1 c2 => ?_, fun w G => ?_⟩
  · subst hn
    have c1 := c1 (by omega)
    clear c2
    go_enter Tryd.func9, Tryd.ntmps9
    go_wp2_with (first | (go_at_call 13; (with_reducible show Calls Tryd.prog 13 #[.int .u32 d0] _ _); refine (hn0 _).mono ?_; rintro e w1 ⟨rfl, hw1⟩; subst w1) | (go_at_call 13; (with_reducible show Calls Tryd.prog 13 #[.int .u32 d1] _ _); refine (hn1 _).mono ?_; rintro e w1 ⟨rfl, hw1⟩; subst w1) | (go_at_call 14; refine (H14.out _).mono ?_; rintro e w1 ⟨rfl, hw1⟩; subst w1))
    go_ret
    exact ⟨rfl, Below.refl _ _⟩
  · have bx : Below w.heap.size w (w.alloc (.cells #[.int .u32 d0, .int .u32 d1, .int .u32 d2] 30)) := (Below.refl _ _).alloc (Nat.le_refl _) _
    have G1 := G.below bx
    go_enter Tryd.func12, Tryd.ntmps12
    go_wp2
    go_quiet (fail)
    go_wp2_with (go_at_call 21; refine (H21.out _).mono ?_; rintro e w1 ⟨rfl, hw1⟩; subst w1)
    go_ret
    exact ⟨rfl, below_drewN bx _⟩
set_option maxRecDepth 100000 in
set_option maxHeartbeats 4000000 in
theorem max_f_d (s : ByteArray) (es : s.toList = [109, 97, 120]) (d0 d1 d2 : Int) (p0 : 0 ≤ d0) (p1 : d0 < 4294967296) (q0 : 0 ≤ d1) (q1 : d1 < 4294967296) (r0 : 0 ≤ d2) (r1 : d2 < 4294967296) (h : ¬ 2139095040 < d0 % 2147483648 ∧ ¬ 2139095040 < d1 % 2147483648 ∧ Cm.cmpI d1 d0 = 0) : ∃ R : Int, (∀ (w : World) (a n : Nat), n = 2 → w.cell? ⟨a, 0, none⟩ = some (.int .u32 d0) → (2 ≤ n → w.cell? ⟨a, 1, none⟩ = some (.int .u32 d1)) → (3 ≤ n → w.cell? ⟨a, 2, none⟩ = some (.int .u32 d2)) → Calls Tryd.prog 9 #[.string s, .bool true, .slice (some ⟨a, 0, none⟩) n n] w fun e w' => e = .returned (.int .u32 R) ∧ Below w.heap.size w w') ∧ (∀ w : World, Forms w → Calls Tryd.prog 12 #[.string s, .agg #[.int .u32 d0, .int .u32 d1, .int .u32 d2]] w fun e w' => e = .returned (.int .u32 R) ∧ Below w.heap.size w w') := by
  have f0 : (s.toList == [97, 98, 115]) = false := by rw [es]; rfl
  have f1 : (s.toList == [109, 105, 110]) = false := by rw [es]; rfl
  have f2 : (s.toList == [109, 97, 120]) = true := by rw [es]; rfl
  have f3 : (s.toList == [102, 109, 97]) = false := by rw [es]; rfl
  have f4 : (s.toList == [115, 113, 114, 116]) = false := by rw [es]; rfl
  have f5 : (s.toList == [102, 108, 111, 97, 116]) = false := by rw [es]; rfl
  have f6 : (s.toList == [105, 110, 116]) = false := by rw [es]; rfl
  clear es
  have hn0 := sNaN_any d0 p0 p1
  have hn1 := sNaN_any d1 q0 q1
  have eC : Cm.cmpI d1 d0 = 0 := by
    exact h.2.2
  rw [decide_eq_false (by omega)] at hn0
  rw [decide_eq_false (by omega)] at hn1
  have H14 : Hid (∀ w : World, Calls Tryd.prog 14 #[.int .u32 d1, .int .u32 d0] w fun e w' => e = .returned (.int .i64 (0)) ∧ w' = w) := fun w => by
    have h := sCmp14 d1 d0 q0 q1 p0 p1 w
    rw [eC] at h
    exact h
  have H21 : Hid (∀ w : World, Calls Tryd.prog 21 #[.int .u32 d0, .int .u32 d1, .int .i64 (1)] w fun e w' => e = .returned (.int .u32 (d0)) ∧ w' = w) := fun w => by
    have h := chosen21 d0 d1 (1) p0 p1 q0 q1 w
    rw [eC] at h
    exact h
  clear eC h
  refine ⟨d0, fun w a n hn c0 c1 c2 => ?_, fun w G => ?_⟩
  · subst hn
    have c1 := c1 (by omega)
    clear c2
    go_enter Tryd.func9, Tryd.ntmps9
    go_wp2_with (first | (go_at_call 13; (with_reducible show Calls Tryd.prog 13 #[.int .u32 d0] _ _); refine (hn0 _).mono ?_; rintro e w1 ⟨rfl, hw1⟩; subst w1) | (go_at_call 13; (with_reducible show Calls Tryd.prog 13 #[.int .u32 d1] _ _); refine (hn1 _).mono ?_; rintro e w1 ⟨rfl, hw1⟩; subst w1) | (go_at_call 14; refine (H14.out _).mono ?_; rintro e w1 ⟨rfl, hw1⟩; subst w1))
    go_ret
    exact ⟨rfl, Below.refl _ _⟩
  · have bx : Below w.heap.size w (w.alloc (.cells #[.int .u32 d0, .int .u32 d1, .int .u32 d2] 30)) := (Below.refl _ _).alloc (Nat.le_refl _) _
    have G1 := G.below bx
    go_enter Tryd.func12, Tryd.ntmps12
    go_wp2
    go_quiet (fail)
    go_wp2_with (go_at_call 21; refine (H21.out _).mono ?_; rintro e w1 ⟨rfl, hw1⟩; subst w1)
    go_ret
    exact ⟨rfl, below_drewN bx _⟩
set_option maxRecDepth 100000 in
set_option maxHeartbeats 4000000 in
theorem max_f_e (s : ByteArray) (es : s.toList = [109, 97, 120]) (d0 d1 d2 : Int) (p0 : 0 ≤ d0) (p1 : d0 < 4294967296) (q0 : 0 ≤ d1) (q1 : d1 < 4294967296) (r0 : 0 ≤ d2) (r1 : d2 < 4294967296) (h : ¬ 2139095040 < d0 % 2147483648 ∧ ¬ 2139095040 < d1 % 2147483648 ∧ Cm.cmpI d1 d0 = 1) : ∃ R : Int, (∀ (w : World) (a n : Nat), n = 2 → w.cell? ⟨a, 0, none⟩ = some (.int .u32 d0) → (2 ≤ n → w.cell? ⟨a, 1, none⟩ = some (.int .u32 d1)) → (3 ≤ n → w.cell? ⟨a, 2, none⟩ = some (.int .u32 d2)) → Calls Tryd.prog 9 #[.string s, .bool true, .slice (some ⟨a, 0, none⟩) n n] w fun e w' => e = .returned (.int .u32 R) ∧ Below w.heap.size w w') ∧ (∀ w : World, Forms w → Calls Tryd.prog 12 #[.string s, .agg #[.int .u32 d0, .int .u32 d1, .int .u32 d2]] w fun e w' => e = .returned (.int .u32 R) ∧ Below w.heap.size w w') := by
  have f0 : (s.toList == [97, 98, 115]) = false := by rw [es]; rfl
  have f1 : (s.toList == [109, 105, 110]) = false := by rw [es]; rfl
  have f2 : (s.toList == [109, 97, 120]) = true := by rw [es]; rfl
  have f3 : (s.toList == [102, 109, 97]) = false := by rw [es]; rfl
  have f4 : (s.toList == [115, 113, 114, 116]) = false := by rw [es]; rfl
  have f5 : (s.toList == [102, 108, 111, 97, 116]) = false := by rw [es]; rfl
  have f6 : (s.toList == [105, 110, 116]) = false := by rw [es]; rfl
  clear es
  have hn0 := sNaN_any d0 p0 p1
  have hn1 := sNaN_any d1 q0 q1
  have eC : Cm.cmpI d1 d0 = 1 := by
    exact h.2.2
  rw [decide_eq_false (by omega)] at hn0
  rw [decide_eq_false (by omega)] at hn1
  have H14 : Hid (∀ w : World, Calls Tryd.prog 14 #[.int .u32 d1, .int .u32 d0] w fun e w' => e = .returned (.int .i64 (1)) ∧ w' = w) := fun w => by
    have h := sCmp14 d1 d0 q0 q1 p0 p1 w
    rw [eC] at h
    exact h
  have H21 : Hid (∀ w : World, Calls Tryd.prog 21 #[.int .u32 d0, .int .u32 d1, .int .i64 (1)] w fun e w' => e = .returned (.int .u32 (d1)) ∧ w' = w) := fun w => by
    have h := chosen21 d0 d1 (1) p0 p1 q0 q1 w
    rw [eC] at h
    exact h
  clear eC h
  refine ⟨d1, fun w a n hn c0 c1 c2 => ?_, fun w G => ?_⟩
  · subst hn
    have c1 := c1 (by omega)
    clear c2
    go_enter Tryd.func9, Tryd.ntmps9
    go_wp2_with (first | (go_at_call 13; (with_reducible show Calls Tryd.prog 13 #[.int .u32 d0] _ _); refine (hn0 _).mono ?_; rintro e w1 ⟨rfl, hw1⟩; subst w1) | (go_at_call 13; (with_reducible show Calls Tryd.prog 13 #[.int .u32 d1] _ _); refine (hn1 _).mono ?_; rintro e w1 ⟨rfl, hw1⟩; subst w1) | (go_at_call 14; refine (H14.out _).mono ?_; rintro e w1 ⟨rfl, hw1⟩; subst w1))
    go_ret
    exact ⟨rfl, Below.refl _ _⟩
  · have bx : Below w.heap.size w (w.alloc (.cells #[.int .u32 d0, .int .u32 d1, .int .u32 d2] 30)) := (Below.refl _ _).alloc (Nat.le_refl _) _
    have G1 := G.below bx
    go_enter Tryd.func12, Tryd.ntmps12
    go_wp2
    go_quiet (fail)
    go_wp2_with (go_at_call 21; refine (H21.out _).mono ?_; rintro e w1 ⟨rfl, hw1⟩; subst w1)
    go_ret
    exact ⟨rfl, below_drewN bx _⟩
theorem max_f (s : ByteArray) (es : s.toList = [109, 97, 120]) (d0 d1 d2 : Int) (p0 : 0 ≤ d0) (p1 : d0 < 4294967296) (q0 : 0 ≤ d1) (q1 : d1 < 4294967296) (r0 : 0 ≤ d2) (r1 : d2 < 4294967296) : ∃ R : Int, (∀ (w : World) (a n : Nat), n = 2 → w.cell? ⟨a, 0, none⟩ = some (.int .u32 d0) → (2 ≤ n → w.cell? ⟨a, 1, none⟩ = some (.int .u32 d1)) → (3 ≤ n → w.cell? ⟨a, 2, none⟩ = some (.int .u32 d2)) → Calls Tryd.prog 9 #[.string s, .bool true, .slice (some ⟨a, 0, none⟩) n n] w fun e w' => e = .returned (.int .u32 R) ∧ Below w.heap.size w w') ∧ (∀ w : World, Forms w → Calls Tryd.prog 12 #[.string s, .agg #[.int .u32 d0, .int .u32 d1, .int .u32 d2]] w fun e w' => e = .returned (.int .u32 R) ∧ Below w.heap.size w w') := by
  by_cases hA : 2139095040 < d0 % 2147483648
  · exact max_f_a s es d0 d1 d2 p0 p1 q0 q1 r0 r1 hA
  by_cases hB : 2139095040 < d1 % 2147483648
  · exact max_f_b s es d0 d1 d2 p0 p1 q0 q1 r0 r1 ⟨hA, hB⟩
  by_cases hc : Cm.keyI d1 < Cm.keyI d0
  · exact max_f_c s es d0 d1 d2 p0 p1 q0 q1 r0 r1 ⟨hA, hB, by unfold Cm.cmpI; rw [if_neg (by omega), if_pos hc]⟩
  by_cases hd : Cm.keyI d0 < Cm.keyI d1
  · exact max_f_e s es d0 d1 d2 p0 p1 q0 q1 r0 r1 ⟨hA, hB, by unfold Cm.cmpI; rw [if_neg (by omega), if_neg hc, if_pos hd]⟩
  · exact max_f_d s es d0 d1 d2 p0 p1 q0 q1 r0 r1 ⟨hA, hB, by unfold Cm.cmpI; rw [if_neg (by omega), if_neg hc, if_neg hd]⟩
end Go.Proofs.YtoloenkcfpfgcaaDoor
