/- Contracts of the model's l1Told and WordOfHalf where the rounding is given. -/
import Derived.Test.YtoloenkcfpfgcaaDoorRnd16
namespace Go.Proofs.YtoloenkcfpfgcaaDoor
open Go.ChangeShapes Go.WideShapes Go.ChangeAt Go.RowKit

set_option maxHeartbeats 2000000 in
theorem zTold (n E M es : Int) (neg : Bool) (hneg : neg = decide (n < 0)) (m0 : 8388608 ≤ M) (m1 : M < 16777216) (s0 : -149 ≤ es) (s1 : es ≤ 104) (w : World)
    (hR : ∀ v : World, Calls Tryd.prog 59 #[.agg #[.int .i64 n, .bool false, .slice none 0 0, .int .i64 1, .bool false, .slice none 0 0, .int .i64 E], .agg #[.int .i64 24, .int .i64 (-149), .int .i64 104], .int .i64 0, .bool neg] v fun e w' => e = .returned (.tuple #[.int .i64 M, .int .i64 es]) ∧ Below v.heap.size v w') :
    Calls Tryd.prog 35 #[.agg #[.int .i64 n, .bool false, .slice none 0 0, .int .i64 1, .bool false, .slice none 0 0, .int .i64 E], .agg #[.int .i64 24, .int .i64 (-149), .int .i64 104], .int .i64 0] w fun e w' => e = .returned (.int .i64 ((if neg then 2147483648 else 0) + (es + 150) * 8388608 + M - 8388608)) ∧ Below w.heap.size w w' := by
  have hc : decide (cmpZ n 0 < 0) = neg := by
    rw [hneg]; unfold cmpZ
    by_cases h : n < 0
    · simp [h]
    · rw [if_neg h]; split <;> simp [h]
  obtain ⟨c, hcc⟩ : ∃ c, cmpZ n 0 = c := ⟨_, rfl⟩
  rw [hcc] at hc
  have zs : ∀ v : World, Calls Tryd.prog 58 #[.agg #[.int .i64 n, .bool false, .slice none 0 0]] v fun e w' => e = .returned (.int .i64 c) ∧ Below v.heap.size v w' := fun v => by rw [← hcc]; exact zSign n v
  clear hcc hneg
  cases neg
  · have hcn : ¬ c < 0 := by simpa using hc
    go_enter Tryd.func35, Tryd.ntmps35
    go_wp2_with (first | (go_at_call 58; refine (zs _).mono ?_; rintro e w1 ⟨rfl, hb1⟩; (have X1 := (hb1.block w.heap.size (by simp; omega)).trans ((Below.heap_alloc _ _ _ (by simp)).trans (heap_alloc_new _ _))); (have F1 := (hb1.block (w.heap.size + 1) (by simp)).trans (heap_alloc_at (by simp))); have hz1 := hb1.size; (try simp at hz1); (obtain ⟨⟨x0, x1, x2, x3, x4, x5, x6⟩, _⟩ := blk7 X1); (obtain ⟨⟨f0, f1, f2⟩, _⟩ := blk3 F1)) | (go_at_call 59; refine (hR _).mono ?_; rintro e w2 ⟨rfl, hb2⟩; (obtain ⟨⟨g0, g1, g2⟩, _⟩ := blk3 ((hb2.block (w.heap.size + 1) (by omega)).trans F1))))
    go_ret
    exact ⟨congrArg Ending.returned (congrArg (Value.int IntKind.i64) (by first | rfl | (simp; omega) | omega)), by repeat (first | (with_reducible refine Below.setCell ?_ (by first | omega | (simp; try omega)) _) | (with_reducible refine Below.alloc ?_ (by first | omega | (simp; try omega)) _) | (with_reducible apply Below.drew) | (with_reducible apply below_drewN) | (with_reducible exact Below.refl _ _) | (with_reducible refine Below.trans ?_ (hb2.mono (by first | omega | (simp; try omega)))) | (with_reducible refine Below.trans ?_ (hb1.mono (by first | omega | (simp; try omega)))))⟩
  · have hcn : c < 0 := by simpa using hc
    go_enter Tryd.func35, Tryd.ntmps35
    go_wp2_with (first | (go_at_call 58; refine (zs _).mono ?_; rintro e w1 ⟨rfl, hb1⟩; (have X1 := (hb1.block w.heap.size (by simp; omega)).trans ((Below.heap_alloc _ _ _ (by simp)).trans (heap_alloc_new _ _))); (have F1 := (hb1.block (w.heap.size + 1) (by simp)).trans (heap_alloc_at (by simp))); have hz1 := hb1.size; (try simp at hz1); (obtain ⟨⟨x0, x1, x2, x3, x4, x5, x6⟩, _⟩ := blk7 X1); (obtain ⟨⟨f0, f1, f2⟩, _⟩ := blk3 F1)) | (go_at_call 59; refine (hR _).mono ?_; rintro e w2 ⟨rfl, hb2⟩; (obtain ⟨⟨g0, g1, g2⟩, _⟩ := blk3 ((hb2.block (w.heap.size + 1) (by omega)).trans F1))))
    go_ret
    exact ⟨congrArg Ending.returned (congrArg (Value.int IntKind.i64) (by first | rfl | (simp; omega) | omega)), by repeat (first | (with_reducible refine Below.setCell ?_ (by first | omega | (simp; try omega)) _) | (with_reducible refine Below.alloc ?_ (by first | omega | (simp; try omega)) _) | (with_reducible apply Below.drew) | (with_reducible apply below_drewN) | (with_reducible exact Below.refl _ _) | (with_reducible refine Below.trans ?_ (hb2.mono (by first | omega | (simp; try omega)))) | (with_reducible refine Below.trans ?_ (hb1.mono (by first | omega | (simp; try omega)))))⟩

theorem bit_or31 (a : Int) (h0 : 0 ≤ a) (h1 : a < 2147483648) : bits .or .u32 a 2147483648 = a + 2147483648 := by
  obtain ⟨A, rfl⟩ := Int.eq_ofNat_of_zero_le h0
  have h := u32_or_nat A 2147483648 (by omega) (by omega)
  have e : A ||| 2147483648 = A + 2147483648 := by
    have h2 : A < 2 ^ 31 := by omega
    have := Nat.two_pow_add_eq_or_of_lt h2 1
    rw [Nat.or_comm, show (2147483648 : Nat) = 2 ^ 31 * 1 by decide, ← this]; omega
  rw [e] at h
  simpa using h
theorem sSigned (neg : Bool) (a : Int) (h0 : 0 ≤ a) (h1 : a < 2147483648) (w : World) :
    Calls Tryd.prog 29 #[.bool neg, .int .u32 a] w fun e w' => e = .returned (.int .u32 (if neg then a + 2147483648 else a)) ∧ w' = w := by
  have hb := bit_or31 a h0 h1
  cases neg
  all_goals
    go_enter Tryd.func29, Tryd.ntmps29
    go_wp2
    go_ret
    exact ⟨rfl, rfl⟩
theorem bit_10 (a : Int) (h0 : 0 ≤ a) (h1 : a < 4294967296) : bits .and .u32 a 1023 = a % 1024 := by go_bits2
theorem bit_31 (a : Int) (h0 : 0 ≤ a) (h1 : a < 4294967296) : bits .and .u32 (a / 1024) 31 = a / 1024 % 32 := by
  have g0 : 0 ≤ a / 1024 := by omega
  have g1 : a / 1024 < 4294967296 := by omega
  generalize a / 1024 = b at *
  go_bits2
end Go.Proofs.YtoloenkcfpfgcaaDoor
