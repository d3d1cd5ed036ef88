/- The model's root of a whole number (l1Root): the greatest whole number whose square is not above it; condition: the number is above 0 and below 10^32. -/
import Derived.Test.YtoloenkcfpfgcaaDoorRootI
import Derived.Deep.LoopGhost
namespace Go.Proofs.YtoloenkcfpfgcaaDoor
open Go.ChangeShapes Go.WideShapes Go.ChangeAt Go.RowKit
set_option linter.unusedVariables false
/-- What a round of Newton's way makes of x. -/
theorem newton (a x : Nat) (x0 : 0 < x) (a0 : 0 < a) (h : a < (x + 1) * (x + 1)) :
    (x ≤ (x + a / x) / 2 → IsRoot a x) ∧ ((x + a / x) / 2 < x → 0 < (x + a / x) / 2 ∧ a < ((x + a / x) / 2 + 1) * ((x + a / x) / 2 + 1)) := by
  obtain ⟨n, hn⟩ : ∃ n, a / x = n := ⟨_, rfl⟩
  have d1 : n * x ≤ a := by rw [← hn]; exact Nat.div_mul_le_self a x
  have d2 : a < (n + 1) * x := by
    have e := Nat.div_add_mod a x
    rw [hn] at e
    have := Nat.mod_lt a x0
    rw [Nat.add_mul, Nat.one_mul, Nat.mul_comm n x]
    omega
  rw [hn]
  obtain ⟨y, hy⟩ : ∃ y, (x + n) / 2 = y := ⟨_, rfl⟩
  rw [hy]
  refine ⟨fun hxy => ⟨?_, h⟩, fun hyx => ?_⟩
  · have : x ≤ n := by omega
    exact Nat.le_trans (Nat.mul_le_mul_right x this) d1
  · have key : a < (y + 1) * (y + 1) := by
      have e1 : x + (n + 1) ≤ 2 * (y + 1) := by omega
      have e2 : (x + (n + 1)) * (x + (n + 1)) ≤ (2 * (y + 1)) * (2 * (y + 1)) := Nat.mul_le_mul e1 e1
      have e3 : 4 * ((n + 1) * x) ≤ (x + (n + 1)) * (x + (n + 1)) := by
        obtain ⟨m, hm⟩ : ∃ m, n + 1 = m := ⟨_, rfl⟩
        rw [hm]
        rcases Nat.le_total x m with q | q
        · obtain ⟨d, rfl⟩ : ∃ d, m = x + d := ⟨m - x, by omega⟩
          have : (x + (x + d)) * (x + (x + d)) = 4 * ((x + d) * x) + d * d := by
            simp only [Nat.add_mul, Nat.mul_add, Nat.mul_comm d x]; omega
          omega
        · obtain ⟨d, rfl⟩ : ∃ d, x = m + d := ⟨x - m, by omega⟩
          have : (m + d + m) * (m + d + m) = 4 * (m * (m + d)) + d * d := by
            simp only [Nat.add_mul, Nat.mul_add, Nat.mul_comm d m]; omega
          omega
      have e4 : (2 * (y + 1)) * (2 * (y + 1)) = 4 * ((y + 1) * (y + 1)) := by
        rw [Nat.mul_mul_mul_comm]
      omega
    refine ⟨?_, key⟩
    rcases Nat.eq_zero_or_pos y with q | q
    · rw [q] at key; omega
    · exact q
/-- The three structs of l1Root in memory: the number, the answer, the root so far. -/
structure R3 (k b : Nat) (w0 w : World) (V : Int) (g : Bool) (p : Option Addr) (l c : Nat) (Vx : Int) (gx : Bool) (px : Option Addr) (lx cx : Nat) : Prop where
  A : Three w k (.int .i64 V) (.bool g) (.slice p l c)
  Z : Three w (k + 1) (.int .i64 0) (.bool false) (.slice none 0 0)
  X : Three w b (.int .i64 Vx) (.bool gx) (.slice px lx cx)
  below : Below k w0 w
  far : k + 2 ≤ b
theorem R3.next {k b : Nat} {w0 w w' : World} {V : Int} {g : Bool} {p : Option Addr} {l c : Nat} {Vx : Int} {gx : Bool} {px : Option Addr} {lx cx : Nat} (h : R3 k b w0 w V g p l c Vx gx px lx cx) (hb : Below w.heap.size w w') : R3 k b w0 w' V g p l c Vx gx px lx cx :=
  ⟨h.A.next hb, h.Z.next hb, h.X.next hb, h.below.trans (hb.mono (Nat.le_of_lt h.A.lt)), h.far⟩
theorem R3.drew {k b : Nat} {w0 w : World} {V : Int} {g : Bool} {p : Option Addr} {l c : Nat} {Vx : Int} {gx : Bool} {px : Option Addr} {lx cx : Nat} (h : R3 k b w0 w V g p l c Vx gx px lx cx) : R3 k b w0 w.drew V g p l c Vx gx px lx cx :=
  ⟨h.A, h.Z, h.X, h.below.drew, h.far⟩
theorem R3.set {k b : Nat} {w0 w : World} {V : Int} {g : Bool} {p : Option Addr} {l c : Nat} {Vx : Int} {gx : Bool} {px : Option Addr} {lx cx : Nat} (h : R3 k b w0 w V g p l c Vx gx px lx cx) (Vy : Int) (gy : Bool) (py : Option Addr) (ly cy : Nat) :
    R3 k b w0 (((w.setCell ⟨b, 0, none⟩ (.int .i64 Vy)).setCell ⟨b, 1, none⟩ (.bool gy)).setCell ⟨b, 2, none⟩ (.slice py ly cy)) V g p l c Vy gy py ly cy :=
  ⟨h.A.other (by have := h.far; omega) _ _ _, h.Z.other (by have := h.far; omega) _ _ _, h.X.set _ _ _, below_set3 h.below (by have := h.far; omega) _ _ _, h.far⟩
theorem cmp_le (A B : Int) : (cmpZ A B ≤ 0) ↔ A ≤ B := by unfold cmpZ; (repeat' split) <;> omega
theorem cmp_ge (A B : Int) : (0 ≤ cmpZ A B) ↔ B ≤ A := by unfold cmpZ; (repeat' split) <;> omega
theorem ten_step (j : Nat) : (1000000 : Int) ^ (j + 1) = 1000000 ^ j * 1000000 := Int.pow_succ _ _
set_option maxRecDepth 100000 in
set_option maxHeartbeats 8000000 in
theorem num_root {w : World} {K : Nat} {V : Int} {g : Bool} {p : Option Addr} {l c : Nat} {a : Nat} (HA : Num w K (.agg #[.int .i64 V, .bool g, .slice p l c]) (a : Int)) (hK : 2 ≤ K) (hK2 : K ≤ 100) (a0 : 0 < a) (a1 : a < 100000000000000000000000000000000) :
    Calls Tryd.prog 40 #[.agg #[.int .i64 V, .bool g, .slice p l c]] w fun e w' => ∃ (v : Value) (r : Nat), e = .returned v ∧ IsRoot a r ∧ Num w' 3 v (r : Int) ∧ Below w.heap.size w w' := by
  have hz85 := fun v (h : Below w.heap.size w v) => num_zero (HA.next h)
  rw [show decide ((a : Int) = 0) = false from decide_eq_false (by omega)] at hz85
  have HZ : Hid (∀ v, Below w.heap.size w v → Calls Tryd.prog 34 #[.agg #[.int .i64 V, .bool g, .slice p l c]] v fun e w' => e = .returned (.bool false) ∧ Below v.heap.size v w') := hz85
  clear hz85
  have B00 : Below w.heap.size w ((w.alloc (.cells #[.int .i64 V, .bool g, .slice p l c] 50)).alloc (.cells #[.int .i64 0, .bool false, .slice none 0 0] 50)) := ((Below.refl _ _).alloc (Nat.le_refl _) _).alloc (by simp) _
  have A00 : Three ((w.alloc (.cells #[.int .i64 V, .bool g, .slice p l c] 50)).alloc (.cells #[.int .i64 0, .bool false, .slice none 0 0] 50)) w.heap.size (.int .i64 V) (.bool g) (.slice p l c) := (Below.heap_alloc _ _ _ (by simp)).trans (heap_alloc_new _ _)
  have Z00 : Three ((w.alloc (.cells #[.int .i64 V, .bool g, .slice p l c] 50)).alloc (.cells #[.int .i64 0, .bool false, .slice none 0 0] 50)) (w.heap.size + 1) (.int .i64 0) (.bool false) (.slice none 0 0) := heap_alloc_at (by simp)
  have HN : Hid (Num w K (.agg #[.int .i64 V, .bool g, .slice p l c]) (a : Int)) := HA
  clear HA
  go_enter Tryd.func40, Tryd.ntmps40
  go_wp2_with (first | (go_at_call 34; refine ((Hid.out HZ) _ B00).mono ?_; rintro e w1 ⟨rfl, hb1⟩; (have A1 := A00.next hb1); (have Z1 := Z00.next hb1); (have B1 := B00.trans (hb1.mono B00.size))) | (go_at_call 38; refine (zSmall 1 (by decide) (by decide) w1).mono ?_; rintro e w2 ⟨rfl, hb2⟩; (have A2 := A1.next hb2); (have Z2 := Z1.next hb2); (have B2 := B1.trans (hb2.mono B1.size))))
  have X2 : Three (w2.alloc (.cells #[.int .i64 1, .bool false, .slice none 0 0] 50)) w2.heap.size (.int .i64 1) (.bool false) (.slice none 0 0) := heap_alloc_new _ _
  have far : w.heap.size + 2 ≤ w2.heap.size := by have q1 := hb1.size; have q2 := hb2.size; simp at q1; omega
  have R0 : R3 w.heap.size w2.heap.size w (w2.alloc (.cells #[.int .i64 1, .bool false, .slice none 0 0] 50)) V g p l c 1 false none 0 0 := ⟨A2.next (al _ _), Z2.next (al _ _), X2, B2.trans ((al _ _).mono B2.size), far⟩
  clear X2 A2 Z2 B2 hb1 hb2 A1 Z1 B1 A00 Z00 B00 HZ
  go_loopg [] 4 (fun k wr => ∃ (j x : Nat) (Vx : Int) (gx : Bool) (px : Option Addr) (lx cx : Nat), R3 w.heap.size w2.heap.size w wr V g p l c Vx gx px lx cx ∧ Num wr 3 (.agg #[.int .i64 Vx, .bool gx, .slice px lx cx]) (x : Int) ∧ j ≤ 3 ∧ k = 4 - j ∧ Hid (x = 1000000 ^ j))
  case atStart => exact ⟨0, 1, 1, false, none, 0, 0, R0, num_small _ _ 1 (by decide) (by decide), by omega, rfl, rfl⟩
  case round =>
    obtain ⟨j, x, Vx, gx, px, lx, cx, RR, NX, hj, hk, HX⟩ := hrel
    have x18 : 0 < x ∧ x ≤ 1000000000000000000 := by
      have h := HX.out
      rcases (by omega : j = 0 ∨ j = 1 ∨ j = 2 ∨ j = 3) with rfl | rfl | rfl | rfl <;> omega
    have NA : Num wr K (.agg #[.int .i64 V, .bool g, .slice p l c]) (a : Int) := HN.out.next RR.below
    have NXd := NX.drew
    obtain ⟨⟨b0, b1, b2⟩, _⟩ := blk3 RR.X
    obtain ⟨⟨b3, b4, b5⟩, _⟩ := blk3 RR.A
    by_cases hle : x * x ≤ a
    · have hc : cmpZ ((x : Int) * (x : Int)) (a : Int) ≤ 0 := (cmp_le _ _).mpr (by have : ((x * x : Nat) : Int) ≤ (a : Int) := by omega
                                                                                   simpa using this)
      obtain ⟨z, hz⟩ : ∃ z, cmpZ ((x : Int) * (x : Int)) (a : Int) = z := ⟨_, rfl⟩
      rw [hz] at hc
      have j2 : j ≤ 2 := by
        have h := HX.out
        rcases (by omega : j = 0 ∨ j = 1 ∨ j = 2 ∨ j = 3) with rfl | rfl | rfl | rfl
        · omega
        · omega
        · omega
        · exfalso
          rw [h] at hle
          have : (1000000 : Nat) ^ 3 * 1000000 ^ 3 = 1000000000000000000000000000000000000 := by decide
          omega
      have HJ : Hid (x * 1000000 = 1000000 ^ (j + 1)) := by show _ = _; rw [Nat.pow_succ, ← HX.out]
      have HLE : Hid (x * x ≤ a) := hle
      clear hle
      go_wp2
      go_region_held3 (fun v => v.cell? ⟨w2.heap.size, 0, none⟩ = some (.int .i64 Vx) ∧ v.cell? ⟨w2.heap.size, 1, none⟩ = some (.bool gx) ∧ v.cell? ⟨w2.heap.size, 2, none⟩ = some (.slice px lx cx) ∧ v.cell? ⟨w.heap.size, 0, none⟩ = some (.int .i64 V) ∧ v.cell? ⟨w.heap.size, 1, none⟩ = some (.bool g) ∧ v.cell? ⟨w.heap.size, 2, none⟩ = some (.slice p l c)) (first | with_reducible exact ⟨b0, b1, b2, b3, b4, b5⟩ | with_reducible exact ⟨s0, s1, s2, s3, s4, s5⟩ | with_reducible exact ⟨t0, t1, t2, t3, t4, t5⟩ | (go_keep; done)) (first | (go_at_call 37; refine (num_mul_any (w := wr.drew) NXd NXd (by decide) (by decide) (by decide)).mono ?_; rintro e w3 ⟨v3, rfl, N3, hb3⟩; obtain ⟨V3, g3, p3, l3, c3, rfl⟩ := N3.parts; (have hb3' : Below wr.heap.size wr w3 := ⟨hb3.os, hb3.tape, hb3.output, hb3.size, hb3.block⟩); (have RR3 := RR.next hb3'); (have NA3 := NA.next hb3'); (have NX3 := NX.next hb3'); obtain ⟨⟨s0, s1, s2⟩, _⟩ := blk3 RR3.X; obtain ⟨⟨s3, s4, s5⟩, _⟩ := blk3 RR3.A) | (go_at_call 42; refine (num_cmp (w := w3) N3 NA3 (by decide) hK (by have := Int.mul_nonneg (Int.natCast_nonneg x) (Int.natCast_nonneg x); exact this) (by omega)).mono ?_; rw [hz]; rintro e w4 ⟨rfl, hb4⟩; (have RR4 := RR3.next hb4); (have NA4 := NA3.next hb4); (have NX4 := NX3.next hb4); obtain ⟨⟨t0, t1, t2⟩, _⟩ := blk3 RR4.X; obtain ⟨⟨t3, t4, t5⟩, _⟩ := blk3 RR4.A))
      clear b0 b1 b2 b3 b4 b5 s0 s1 s2 s3 s4 s5 RR RR3 NA NA3 NX NX3 NXd N3 hb3 hb3' hb4
      obtain ⟨⟨_, _, _⟩, y0, y1, y2⟩ := blk3 RR4.X
      go_wp2
      go_region_with (first | (go_at_call 38; refine (zSmall 1000000 (by decide) (by decide) _).mono ?_; rintro e w5 ⟨rfl, hb5⟩; (have hb5' : Below w4.heap.size w4 w5 := ⟨hb5.os, hb5.tape, hb5.output, hb5.size, hb5.block⟩); (have RR5 := RR4.next hb5'); (have NX5 := NX4.next hb5'); obtain ⟨⟨c0, c1, c2⟩, d0, d1, d2⟩ := blk3 RR5.X) | (go_at_call 37; refine (num_mul_any (w := w5) NX5 (num_small w5 2 1000000 (by decide) (by decide)) (by decide) (by decide) (by decide)).mono ?_; rintro e w6 ⟨v6, rfl, N6, hb6⟩; obtain ⟨V6, g6, p6, l6, c6, rfl⟩ := N6.parts; (have RR6 := RR5.next hb6); obtain ⟨⟨e0, e1, e2⟩, f0, f1, f2⟩ := blk3 RR6.X))
      all_goals
        go_wp2
        go_roundg (3 - j)
        case measure => omega
        case rel =>
          refine ⟨j + 1, x * 1000000, V6, g6, p6, l6, c6, RR6.set _ _ _ _ _, ?_, by omega, by omega, HJ.out⟩
          have h := (N6.set3 RR6.X (.int .i64 V6) (.bool g6) (.slice p6 l6 c6))
          rw [show (x : Int) * 1000000 = ((x * 1000000 : Nat) : Int) by omega] at h
          exact h.tight (by rw [Int.natAbs_natCast]; have : x ≤ 1000000000000 := by
                              have h := HX.out
                              rcases (by omega : j = 0 ∨ j = 1 ∨ j = 2) with rfl | rfl | rfl <;> omega
                            omega)
    · have hc : ¬ cmpZ ((x : Int) * (x : Int)) (a : Int) ≤ 0 := fun h => hle (by have := (cmp_le _ _).mp h; have e : ((x * x : Nat) : Int) = (x : Int) * (x : Int) := by simp
                                                                                 omega)
      obtain ⟨z, hz⟩ : ∃ z, cmpZ ((x : Int) * (x : Int)) (a : Int) = z := ⟨_, rfl⟩
      rw [hz] at hc
      have HLT : Hid (a < (x + 1) * (x + 1)) := by
        show a < (x + 1) * (x + 1)
        have := sq_le x (x + 1) (by omega)
        omega
      clear hle
      go_wp2
      go_region_held3 (fun v => v.cell? ⟨w2.heap.size, 0, none⟩ = some (.int .i64 Vx) ∧ v.cell? ⟨w2.heap.size, 1, none⟩ = some (.bool gx) ∧ v.cell? ⟨w2.heap.size, 2, none⟩ = some (.slice px lx cx) ∧ v.cell? ⟨w.heap.size, 0, none⟩ = some (.int .i64 V) ∧ v.cell? ⟨w.heap.size, 1, none⟩ = some (.bool g) ∧ v.cell? ⟨w.heap.size, 2, none⟩ = some (.slice p l c)) (first | with_reducible exact ⟨b0, b1, b2, b3, b4, b5⟩ | with_reducible exact ⟨s0, s1, s2, s3, s4, s5⟩ | with_reducible exact ⟨t0, t1, t2, t3, t4, t5⟩ | (go_keep; done)) (first | (go_at_call 37; refine (num_mul_any (w := wr.drew) NXd NXd (by decide) (by decide) (by decide)).mono ?_; rintro e w3 ⟨v3, rfl, N3, hb3⟩; obtain ⟨V3, g3, p3, l3, c3, rfl⟩ := N3.parts; (have hb3' : Below wr.heap.size wr w3 := ⟨hb3.os, hb3.tape, hb3.output, hb3.size, hb3.block⟩); (have RR3 := RR.next hb3'); (have NA3 := NA.next hb3'); (have NX3 := NX.next hb3'); obtain ⟨⟨s0, s1, s2⟩, _⟩ := blk3 RR3.X; obtain ⟨⟨s3, s4, s5⟩, _⟩ := blk3 RR3.A) | (go_at_call 42; refine (num_cmp (w := w3) N3 NA3 (by decide) hK (by have := Int.mul_nonneg (Int.natCast_nonneg x) (Int.natCast_nonneg x); exact this) (by omega)).mono ?_; rw [hz]; rintro e w4 ⟨rfl, hb4⟩; (have RR4 := RR3.next hb4); (have NA4 := NA3.next hb4); (have NX4 := NX3.next hb4); obtain ⟨⟨t0, t1, t2⟩, _⟩ := blk3 RR4.X; obtain ⟨⟨t3, t4, t5⟩, _⟩ := blk3 RR4.A))
      clear b0 b1 b2 b3 b4 b5 s0 s1 s2 s3 s4 s5 t0 t1 t2 t3 t4 t5 RR RR3 NA NA3 NX NX3 NXd N3 hb3 hb3' hb4
      go_wp2
      clear NA4 hc hz HX hj hk
      go_loopg [] x (fun k wr => ∃ (x : Nat) (Vx : Int) (gx : Bool) (px : Option Addr) (lx cx : Nat), R3 w.heap.size w2.heap.size w wr V g p l c Vx gx px lx cx ∧ Num wr 3 (.agg #[.int .i64 Vx, .bool gx, .slice px lx cx]) (x : Int) ∧ k = x ∧ 0 < x ∧ x ≤ 1000000000000000000 ∧ Hid (a < (x + 1) * (x + 1)))
      case atStart => exact ⟨x, Vx, gx, px, lx, cx, RR4, NX4, rfl, x18.1, x18.2, HLT⟩
      case round =>
        clear RR4 NX4 HLT x18
        obtain ⟨x, Vx, gx, px, lx, cx, RR, NX, hk, x0, x1, HLT⟩ := hrel
        obtain ⟨n, hn⟩ : ∃ n, a / x = n := ⟨_, rfl⟩
        obtain ⟨y, hy⟩ : ∃ y, (x + n) / 2 = y := ⟨_, rfl⟩
        have nw := newton a x x0 a0 HLT.out
        rw [hn, hy] at nw
        have n1 : n ≤ a := by rw [← hn]; exact Nat.div_le_self a x
        have qe : (a : Int) / (x : Int) = (n : Int) := by rw [← hn]; rfl
        have ye : ((x : Int) + (n : Int)) / 2 = (y : Int) := by omega
        have HNW : Hid ((x ≤ y → IsRoot a x) ∧ (y < x → 0 < y ∧ a < (y + 1) * (y + 1))) := nw
        have HQE : Hid ((a : Int) / (x : Int) = (n : Int)) := qe
        have HYE : Hid (((x : Int) + (n : Int)) / 2 = (y : Int)) := ye
        have y27 : y < 1000000000000000000000000000 ∨ x ≤ y := by omega
        have NA : Num wr K (.agg #[.int .i64 V, .bool g, .slice p l c]) (a : Int) := HN.out.next RR.below
        obtain ⟨⟨b0, b1, b2⟩, _⟩ := blk3 RR.X
        obtain ⟨⟨b3, b4, b5⟩, _⟩ := blk3 RR.A
        obtain ⟨z, hz⟩ : ∃ z, cmpZ (y : Int) (x : Int) = z := ⟨_, rfl⟩
        have zge : 0 ≤ z ↔ (x : Int) ≤ (y : Int) := by rw [← hz]; exact cmp_ge _ _
        have x0' : (0 : Int) < (x : Int) := by omega
        have a0' : (0 : Int) < (a : Int) := by omega
        have s0' : (0 : Int) < (x : Int) + (n : Int) := by omega
        have y0' : (0 : Int) ≤ (y : Int) := by omega
        clear nw qe ye hn hy
        go_wp2_with (first
          | (go_at_call 66; (with_reducible show Calls Tryd.prog 66 _ wr _); refine (num_div (w := wr) NA NX hK (by decide) (by omega) (by decide) a0' x0').mono ?_; rintro e w5 ⟨vq, vr, rfl, Nq, Nr, hb5⟩; rw [HQE.out] at Nq; obtain ⟨Vq, gq, pq, lq, cq, rfl⟩ := Nq.parts; obtain ⟨Vs, gs, ps, ls, cs, rfl⟩ := Nr.parts; (have RR5 := RR.next hb5); (have NX5 := NX.next hb5); (have bW5 : Below w5.heap.size w5 ((w5.alloc (.cells #[.int .i64 Vq, .bool gq, .slice pq lq cq] 50)).alloc (.cells #[.int .i64 Vs, .bool gs, .slice ps ls cs] 50)) := (((Below.refl w5.heap.size w5).alloc (Nat.le_refl _) _).alloc (by simp) _)); (have RW5 := RR5.next bW5); (have NXW := NX5.next bW5); (have NqW := Nq.next bW5); (have TQ : Three ((w5.alloc (.cells #[.int .i64 Vq, .bool gq, .slice pq lq cq] 50)).alloc (.cells #[.int .i64 Vs, .bool gs, .slice ps ls cs] 50)) w5.heap.size (.int .i64 Vq) (.bool gq) (.slice pq lq cq) := (Below.heap_alloc _ _ _ (by simp)).trans (heap_alloc_new _ _)); obtain ⟨⟨f0, f1, f2⟩, _⟩ := blk3 RW5.X; obtain ⟨⟨f3, f4, f5⟩, _⟩ := blk3 TQ)
          | (go_at_call 41; refine (num_add (w := ((w5.alloc (.cells #[.int .i64 Vq, .bool gq, .slice pq lq cq] 50)).alloc (.cells #[.int .i64 Vs, .bool gs, .slice ps ls cs] 50))) NXW NqW (by decide) (by omega) (by omega)).mono ?_; rintro e w6 ⟨v6, rfl, N6, hb6⟩; obtain ⟨V6, g6, p6, l6, c6, rfl⟩ := N6.parts; (have RR6 := RW5.next hb6); (have NX6 := NXW.next hb6))
          | (go_at_call 38; refine (zSmall 2 (by decide) (by decide) w6).mono ?_; rintro e w7 ⟨rfl, hb7⟩; (have RR7 := RR6.next hb7); (have NX7 := NX6.next hb7); (have N7 := N6.next hb7))
          | (go_at_call 66; (with_reducible show Calls Tryd.prog 66 _ w7 _); refine (num_div (w := w7) N7 (num_small w7 3 2 (by decide) (by decide)) (by omega) (by decide) (by omega) (by decide) s0' (by decide)).mono ?_; rintro e w8 ⟨vy, vz, rfl, Ny, Nz, hb8⟩; rw [HYE.out] at Ny; obtain ⟨Vy, gy, py, ly, cy, rfl⟩ := Ny.parts; obtain ⟨Vz, gz, pz, lz, cz, rfl⟩ := Nz.parts; (have RR8 := RR7.next hb8); (have NX8 := NX7.next hb8); (have bW8 : Below w8.heap.size w8 ((w8.alloc (.cells #[.int .i64 Vy, .bool gy, .slice py ly cy] 50)).alloc (.cells #[.int .i64 Vz, .bool gz, .slice pz lz cz] 50)) := (((Below.refl w8.heap.size w8).alloc (Nat.le_refl _) _).alloc (by simp) _)); (have RW8 := RR8.next bW8); (have NXV := NX8.next bW8); (have NyV := Ny.next bW8); (have TY : Three ((w8.alloc (.cells #[.int .i64 Vy, .bool gy, .slice py ly cy] 50)).alloc (.cells #[.int .i64 Vz, .bool gz, .slice pz lz cz] 50)) w8.heap.size (.int .i64 Vy) (.bool gy) (.slice py ly cy) := (Below.heap_alloc _ _ _ (by simp)).trans (heap_alloc_new _ _)); obtain ⟨⟨h0, h1, h2⟩, _⟩ := blk3 RW8.X; obtain ⟨⟨h3, h4, h5⟩, _⟩ := blk3 TY)
          | (go_at_call 42; refine (num_cmp (w := ((w8.alloc (.cells #[.int .i64 Vy, .bool gy, .slice py ly cy] 50)).alloc (.cells #[.int .i64 Vz, .bool gz, .slice pz lz cz] 50))) NyV NXV (by omega) (by decide) y0' (by omega)).mono ?_; rw [hz]; rintro e w9 ⟨rfl, hb9⟩; (have RR9 := RW8.next hb9); (have NX9 := NXV.next hb9); (have Ny9 := NyV.next hb9); (have TY9 := TY.next hb9); obtain ⟨⟨k0, k1, k2⟩, m0, m1, m2⟩ := blk3 RR9.X; obtain ⟨⟨k3, k4, k5⟩, _⟩ := blk3 TY9; obtain ⟨⟨k6, k7, k8⟩, m6, m7, m8⟩ := blk3 RR9.Z))
        · have hxy : x ≤ y := by omega
          exact bodyPost_ret (v := .agg #[.int .i64 Vx, .bool gx, .slice px lx cx]) (by simp [results, Tryd.results40, go_sem, k6, k7, k8]) rfl ⟨_, x, rfl, HNW.out.1 hxy, NX9.set3 RR9.Z _ _ _, below_set3 RR9.below (by omega) _ _ _⟩
        · have hxy : y < x := by omega
          obtain ⟨yp, yq⟩ := HNW.out.2 hxy
          go_roundg y
          case measure => omega
          case rel =>
            refine ⟨y, Vy, gy, py, ly, cy, RR9.set _ _ _ _ _, ?_, rfl, yp, by omega, yq⟩
            exact (Ny9.set3 RR9.X (.int .i64 Vy) (.bool gy) (.slice py ly cy)).tight (by rw [Int.natAbs_natCast]; omega)
end Go.Proofs.YtoloenkcfpfgcaaDoor
