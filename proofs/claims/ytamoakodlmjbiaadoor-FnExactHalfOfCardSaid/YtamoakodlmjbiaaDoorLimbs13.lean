/- Contract of the model's l1Power: 2 to the n, n from 0 to 1000. -/
import Derived.Test.YtamoakodlmjbiaaDoorLimbs12
namespace Go.Proofs.YtamoakodlmjbiaaDoor
open Go.ChangeShapes Go.WideShapes Go.ChangeAt Go.RowKit
theorem Num.parts {w : World} {K : Nat} {v : Value} {N : Int} (h : Num w K v N) : ∃ V g p l c, v = .agg #[.int .i64 V, .bool g, .slice p l c] := by
  rcases h with ⟨rfl, _⟩ | ⟨neg, b, t, cb, f, rfl, _⟩
  · exact ⟨_, _, _, _, _, rfl⟩
  · exact ⟨_, _, _, _, _, rfl⟩
/-- A struct of three cells at block k. -/
def Three (w : World) (k : Nat) (x y z : Value) : Prop := w.heap[k]? = some (.cells #[x, y, z] 57 (0, 0))
theorem Three.next {w w' : World} {k : Nat} {x y z : Value} (h : Three w k x y z) (hb : Below w.heap.size w w') : Three w' k x y z := (hb.block _ (lt_of_block h)).trans h
theorem Three.lt {w : World} {k : Nat} {x y z : Value} (h : Three w k x y z) : k < w.heap.size := lt_of_block h
theorem Three.set {w : World} {k : Nat} {x y z : Value} (h : Three w k x y z) (x' y' z' : Value) : Three (((w.setCell ⟨k, 0, none⟩ x').setCell ⟨k, 1, none⟩ y').setCell ⟨k, 2, none⟩ z') k x' y' z' := set3 h
theorem Three.other {w : World} {k j : Nat} {x y z : Value} (h : Three w k x y z) (hk : k ≠ j) (x' y' z' : Value) : Three (((w.setCell ⟨j, 0, none⟩ x').setCell ⟨j, 1, none⟩ y').setCell ⟨j, 2, none⟩ z') k x y z := (set3_ne hk).trans h
theorem below_set3 {B : Nat} {w0 w : World} (h : Below B w0 w) {j : Nat} (hj : B ≤ j) (x' y' z' : Value) : Below B w0 (((w.setCell ⟨j, 0, none⟩ x').setCell ⟨j, 1, none⟩ y').setCell ⟨j, 2, none⟩ z') := ((h.setCell (p := ⟨j, 0, none⟩) hj _).setCell (p := ⟨j, 1, none⟩) hj _).setCell (p := ⟨j, 2, none⟩) hj _
/-- A struct that holds a number is written: the numbers that hold rows elsewhere stand. -/
theorem Num.set3 {w : World} {K : Nat} {v : Value} {N : Int} (h : Num w K v N) {j : Nat} {x z : Value} {g : Bool} (hj : Three w j x (.bool g) z) (x' y' z' : Value) : Num (((w.setCell ⟨j, 0, none⟩ x').setCell ⟨j, 1, none⟩ y').setCell ⟨j, 2, none⟩ z') K v N := by
  rcases h with h | ⟨neg, b, t, cb, f, hv, t3, tK, tc, t1, hf, hl, f9, top, hN⟩
  · exact Or.inl h
  · have hne : b ≠ j := by
      intro e
      subst e
      obtain ⟨⟨_, a1, _⟩, _⟩ := blk3 hj
      have h1 := hf 1 (by omega)
      rw [a1] at h1
      cases h1
    refine Or.inr ⟨neg, b, t, cb, f, hv, t3, tK, tc, t1, fun i hi => ?_, by simpa using hl, f9, top, hN⟩
    rw [World.cell?_of_block (w := w) (a := ⟨b, i, none⟩) (set3_ne hne)]
    exact hf i hi
theorem pow_ne (n : Nat) : (2 : Int) ^ n ≠ 0 := by
  have := (pow_bd n n (Nat.le_refl _)).1
  omega
theorem Num.drew {w : World} {K : Nat} {v : Value} {N : Int} (h : Num w K v N) : Num w.drew K v N := h
set_option maxRecDepth 100000 in
set_option maxHeartbeats 4000000 in
theorem num_power (n : Nat) (hn : n ≤ 1000) (w : World) :
    Calls Tryd.prog 89 #[.int .i64 n] w fun r w' => ∃ v, r = .returned v ∧ Num w' 100 v (2 ^ n) ∧ Below w.heap.size w w' := by
  have R00 : Three (w.alloc (.cells #[.int .i64 0, .bool false, .slice none 0 0] 57)) w.heap.size (.int .i64 0) (.bool false) (.slice none 0 0) := heap_alloc_new _ _
  have B00 : Below w.heap.size w (w.alloc (.cells #[.int .i64 0, .bool false, .slice none 0 0] 57)) := (Below.refl _ _).alloc (Nat.le_refl _) _
  go_enter Tryd.func89, Tryd.ntmps89
  go_wp2_with (go_at_call 78; refine (zSmall _ (by omega) (by omega) _).mono ?_; rintro e w1 ⟨rfl, hb⟩)
  have R1 := (R00.next hb).next (w' := w1.alloc (.cells #[.int .i64 1, .bool false, .slice none 0 0] 57)) ((Below.refl _ _).alloc (Nat.le_refl _) _)
  have X1 : Three (w1.alloc (.cells #[.int .i64 1, .bool false, .slice none 0 0] 57)) w1.heap.size (.int .i64 1) (.bool false) (.slice none 0 0) := heap_alloc_new _ _
  have B1 : Below w.heap.size w (w1.alloc (.cells #[.int .i64 1, .bool false, .slice none 0 0] 57)) := (B00.trans (hb.mono B00.size)).alloc (B00.trans (hb.mono B00.size)).size _
  have ne : w.heap.size ≠ w1.heap.size := by have := hb.size; simp at this; omega
  have lw : w.heap.size ≤ w1.heap.size := by have := hb.size; simp at this; omega
  clear R00 B00 hb
  go_loopw [0] (fun nv wr => ∃ (j : Nat) (V : Int) (g : Bool) (p : Option Addr) (l c : Nat), 50 * j ≤ n ∧ nv = .int .i64 ((n - 50 * j : Nat) : Int) ∧ Three wr w.heap.size (.int .i64 0) (.bool false) (.slice none 0 0) ∧ Three wr w1.heap.size (.int .i64 V) (.bool g) (.slice p l c) ∧ Num wr (2 + 3 * j) (.agg #[.int .i64 V, .bool g, .slice p l c]) (2 ^ (50 * j)) ∧ Below w.heap.size w wr) (fun nv _ => (intOf nv).toNat)
  case atStart => exact ⟨0, 1, false, none, 0, 0, by omega, rfl, R1, X1, num_small _ _ 1 (by decide) (by decide), B1⟩
  case round =>
    obtain ⟨j, V, g, p, l, c, hj, rfl, RR, XX, NN, BB⟩ := hrel
    obtain ⟨⟨u0, u1, u2⟩, f0, f1, f2⟩ := blk3 XX
    obtain ⟨⟨v0, v1, v2⟩, h0, h1, h2⟩ := blk3 RR
    by_cases hc : 50 ≤ n - 50 * j
    · have hc' : (50 : Int) ≤ ((n - 50 * j : Nat) : Int) := by omega
      obtain ⟨q, hq⟩ : ∃ q, n - 50 * j = q := ⟨_, rfl⟩
      rw [hq] at hc hc' ⊢
      have hq2 : (q : Int) ≤ 1000 := by omega
      have HQ : Hid (n - 50 * j = q) := hq
      clear hq
      go_wp2
      have e50 : (2 : Int) ^ (50 * (j + 1)) = 2 ^ (50 * j) * 1125899906842624 := by rw [Nat.mul_succ, Int.pow_add]; rfl
      have H50 : Hid ((2 : Int) ^ (50 * (j + 1)) = 2 ^ (50 * j) * 1125899906842624) := e50
      clear e50
      go_region_with (first | (go_at_call 78; refine (zSmall _ (by omega) (by omega) _).mono ?_; rintro e w2 ⟨rfl, hb2⟩; (have hb2' : Below wr.heap.size wr w2 := (Below.refl wr.heap.size wr).drew.trans hb2); have X2 := XX.next hb2'; have RR2 := RR.next hb2'; have N2 := NN.next hb2'; obtain ⟨⟨x0, x1, x2⟩, y0, y1, y2⟩ := blk3 X2) | (go_at_call 88; refine (num_mul (w := w2) N2 (num_small w2 2 1125899906842624 (by decide) (by decide)) (by omega) (by omega) (by omega) (pow_ne _) (by decide)).mono ?_; rintro e w3 ⟨v, rfl, N3, hb3⟩; obtain ⟨V3, g3, p3, l3, c3, rfl⟩ := N3.parts; have X3 := X2.next hb3; have RR3 := RR2.next hb3; obtain ⟨⟨s0, s1, s2⟩, t0, t1, t2⟩ := blk3 X3))
      all_goals
        go_wp2
        go_roundw
        case rel => exact ⟨j + 1, V3, g3, p3, l3, c3, by have := HQ.out; omega, by have := HQ.out; rw [show n - 50 * (j + 1) = q - 50 by omega]; go_num, RR3.other ne _ _ _, X3.set _ _ _, by have h := (N3.set3 X3 (.int .i64 V3) (.bool g3) (.slice p3 l3 c3)).mono (show 2 + 3 * j + 2 + 1 ≤ 2 + 3 * (j + 1) by omega); rw [← H50.out] at h; exact h, below_set3 ((BB.trans (hb2'.mono BB.size)).trans (hb3.mono (Nat.le_trans BB.size hb2'.size))) (by omega) _ _ _⟩
        case measure => simp [intOf]; omega
    · obtain ⟨q, hq⟩ : ∃ q, n - 50 * j = q := ⟨_, rfl⟩
      rw [hq] at hc ⊢
      have hc' : ¬ (50 : Int) ≤ (q : Int) := by omega
      have q0 : (0 : Int) ≤ (q : Int) := by omega
      obtain ⟨P, hP⟩ : ∃ P : Int, (2 : Int) ^ q = P := ⟨_, rfl⟩
      have pb := pow_bd q 49 (by omega)
      rw [hP] at pb
      obtain ⟨p0, p1⟩ := pb
      simp only [Int.reducePow] at p1
      have hpow : IntKind.i64.wrap (2 ^ min (IntKind.u64.wrap (q : Int)).toNat 64) = P := by
        rw [IntKind.wrap_u64, Int.emod_eq_of_lt q0 (by omega), Int.toNat_natCast, Nat.min_eq_left (by omega), hP, wr64 P (by omega) (by omega)]
      have hpow2 : wrap64 (2 ^ q) = P := by rw [hP]; simp only [wrap64]; omega
      have en : (2 : Int) ^ n = 2 ^ (50 * j) * P := by rw [← hP, ← Int.pow_add]; congr 1; omega
      have HEN : Hid ((2 : Int) ^ n = 2 ^ (50 * j) * P) := en
      clear en hP hq hc
      have hP0 : P ≠ 0 := by omega
      go_wp2
      go_region_with (first | (go_at_call 78; (try rw [hpow]); (try rw [hpow2]); refine (zSmall P (by omega) (by omega) _).mono ?_; rintro e w2 ⟨rfl, hb2⟩; (have hb2' : Below wr.heap.size wr w2 := (Below.refl wr.heap.size wr).drew.trans hb2); have X2 := XX.next hb2'; have RR2 := RR.next hb2'; have N2 := NN.next hb2'; obtain ⟨⟨x0, x1, x2⟩, y0, y1, y2⟩ := blk3 X2) | (go_at_call 88; refine (num_mul (w := w2) N2 (num_small w2 2 P (by omega) (by omega)) (by omega) (by omega) (by omega) (pow_ne _) hP0).mono ?_; rintro e w3 ⟨v, rfl, N3, hb3⟩; obtain ⟨V3, g3, p3, l3, c3, rfl⟩ := N3.parts; have RR3 := RR2.next hb3; obtain ⟨⟨s0, s1, s2⟩, t0, t1, t2⟩ := blk3 RR3))
      all_goals
        go_wp2
        exact bodyPost_ret (v := .agg #[.int .i64 V3, .bool g3, .slice p3 l3 c3]) (by simp [results, Tryd.results89, go_sem, s0, s1, s2]) rfl ⟨_, rfl, by have h := (N3.set3 RR3 (.int .i64 V3) (.bool g3) (.slice p3 l3 c3)).mono (show 2 + 3 * j + 2 + 1 ≤ 100 by omega); rw [← HEN.out] at h; exact h, below_set3 ((BB.trans (hb2'.mono BB.size)).trans (hb3.mono (Nat.le_trans BB.size hb2'.size))) (Nat.le_refl _) _ _ _⟩
end Go.Proofs.YtamoakodlmjbiaaDoor
