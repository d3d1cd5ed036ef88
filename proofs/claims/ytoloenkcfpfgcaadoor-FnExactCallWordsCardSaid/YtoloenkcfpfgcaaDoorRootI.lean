/- Contracts of the program's productOf, and of MulWords, the program's and the model's, by the kinds of the two words. Contracts of the program's liftTo and quotientOf. The program's roots of whole numbers and of numbers with a power (wholeRoot, rootOf): what they answer; no conditions but that sizes fit. -/
import Derived.Test.YtoloenkcfpfgcaaDoorToFloat
import Derived.Deep.RegionHeld3
namespace Go.Proofs.YtoloenkcfpfgcaaDoor
open Go.ChangeShapes Go.WideShapes Go.ChangeAt Go.RowKit
set_option linter.unusedVariables false
theorem blk4 {w : World} {b : Nat} {x0 x1 x2 x3 : Value} {t : TypeId} (h : w.heap[b]? = some (.cells #[x0, x1, x2, x3] t (0, 0))) :
    (w.cell? ⟨b, 0, none⟩ = some x0 ∧ w.cell? ⟨b, 1, none⟩ = some x1 ∧ w.cell? ⟨b, 2, none⟩ = some x2 ∧ w.cell? ⟨b, 3, none⟩ = some x3) ∧ (w.frozen? ⟨b, 0, none⟩ = false ∧ w.frozen? ⟨b, 1, none⟩ = false ∧ w.frozen? ⟨b, 2, none⟩ = false ∧ w.frozen? ⟨b, 3, none⟩ = false) := by
  refine ⟨⟨?_, ?_, ?_, ?_⟩, ?_, ?_, ?_, ?_⟩ <;> simp [World.cell?, World.frozen?, h]
set_option maxHeartbeats 2000000 in
theorem prod59 (a b : Int) (a0 : 0 ≤ a) (a1 : a < 4294967296) (b0 : 0 ≤ b) (b1 : b < 4294967296) (w : World) (G : Forms w) (s t S T p q Z E : Int) (SA SB : Bool)
    (hSA : decide (2147483648 ≤ a) = SA) (hSB : decide (2147483648 ≤ b) = SB) (hs : exS (a % 2147483648) = s) (ht : exS (b % 2147483648) = t) (hp : exP (a % 2147483648) = p) (hq : exP (b % 2147483648) = q)
    (s0 : 0 ≤ s) (s1 : s < 16777216) (t0 : 0 ≤ t) (t1 : t < 16777216) (p0 : -149 ≤ p) (p1 : p ≤ 105) (q0 : -149 ≤ q) (q1 : q ≤ 105) (hZ : s * t = Z) (z0 : 0 ≤ Z) (z1 : Z < 281474976710656) (hE : p + q = E) :
    Calls Tryd.prog 52 #[.int .u32 a, .int .u32 b] w fun e w' => e = .returned (.agg #[.bool (SA != SB), .int .u64 Z, .int .i64 E, .bool false]) ∧ Below w.heap.size w w' := by
  have hA := fun v (Gv : Forms v) => exactOf_w a a0 a1 v Gv
  have hB := fun v (Gv : Forms v) => exactOf_w b b0 b1 v Gv
  rw [hSA, hs, hp] at hA
  rw [hSB, ht, hq] at hB
  have HA : Hid (∀ v : World, Forms v → Calls Tryd.prog 53 #[.int .u32 a, .int .i64 0] v fun e w' => e = .returned (.agg #[.bool SA, .int .u64 s, .int .i64 p, .bool false]) ∧ Below v.heap.size v w') := hA
  have HB : Hid (∀ v : World, Forms v → Calls Tryd.prog 53 #[.int .u32 b, .int .i64 0] v fun e w' => e = .returned (.agg #[.bool SB, .int .u64 t, .int .i64 q, .bool false]) ∧ Below v.heap.size v w') := hB
  have HE : Hid (p + q = E) := hE
  clear hA hB hSA hSB hs ht hp hq hE
  have G0 : Forms (w.alloc (.cells #[.bool false, .int .u64 0, .int .i64 0, .bool false] 72)) := G.next (al _ _)
  go_enter Tryd.func52, Tryd.ntmps52
  go_wp2_with (first | (go_at_call 53; (with_reducible show Calls Tryd.prog 53 _ (w.alloc _) _); refine ((Hid.out HA) _ G0).mono ?_; rintro e w1 ⟨rfl, hb1⟩; have hz1 := hb1.size; (try simp at hz1)) | (go_at_call 53; refine ((Hid.out HB) w1 (G0.next hb1)).mono ?_; rintro e w2 ⟨rfl, hb2⟩; have hz2 := hb2.size; (have X2 := (hb2.block w.heap.size (by omega)).trans ((hb1.block w.heap.size (by simp)).trans (heap_alloc_new _ _))); obtain ⟨⟨x0, x1, x2, x3⟩, y0, y1, y2, y3⟩ := blk4 X2; (have hlt : w.heap.size < w2.heap.size := by omega)))
  exact bodyPost_ret (v := .agg #[.bool (SA != SB), .int .u64 Z, .int .i64 E, .bool false]) (by have hE := HE.out; simp [results, Tryd.results52, go_sem, x0, x1, x2, x3, hE, hlt, show w.heap.size < w2.heap.size + 1 by omega]; cases SA <;> cases SB <;> rfl) rfl ⟨rfl, by repeat (first | (with_reducible refine Below.setCell ?_ (by first | omega | (simp; try omega)) _) | (with_reducible refine Below.alloc ?_ (by first | omega | (simp; try omega)) _) | (with_reducible apply Below.drew) | (with_reducible apply below_drewN) | (with_reducible exact Below.refl _ _) | (with_reducible refine Below.trans ?_ (hb2.mono (by first | omega | (simp; try omega)))) | (with_reducible refine Below.trans ?_ (hb1.mono (by first | omega | (simp; try omega)))))⟩
/-- What noughtAndInfinite says of two kinds. -/
theorem noughtInf (x y : Int) (hx : 0 ≤ x) (hx3 : x ≤ 3) (hy : 0 ≤ y) (hy3 : y ≤ 3) (w : World) :
    Calls Tryd.prog 49 #[.int .i64 x, .int .i64 y] w fun e w' => e = .returned (.bool (decide (x = 0 ∧ y = 2 ∨ x = 2 ∧ y = 0))) ∧ w' = w := by
  rcases (by omega : x = 0 ∨ x = 1 ∨ x = 2 ∨ x = 3) with rfl | rfl | rfl | rfl <;> rcases (by omega : y = 0 ∨ y = 1 ∨ y = 2 ∨ y = 3) with rfl | rfl | rfl | rfl
  all_goals
    go_enter Tryd.func49, Tryd.ntmps49
    go_wp2
    go_ret
    exact ⟨rfl, rfl⟩
theorem kind_bd (r : Int) : 0 ≤ kindI r ∧ kindI r ≤ 3 := by unfold kindI; repeat' split
                                                            all_goals omega
/-- A word's kind, and what the model's questions answer of it. -/
theorem kind_tests (r : Int) (h0 : 0 ≤ r) : decide (2139095040 < r) = decide (kindI r = 3) ∧ decide (r = 2139095040) = decide (kindI r = 2) ∧ decide (r = 0) = decide (kindI r = 0) := by
  unfold kindI
  refine ⟨?_, ?_, ?_⟩ <;> rw [Bool.eq_iff_iff] <;> simp only [decide_eq_true_eq] <;> (repeat' split) <;> omega
theorem or_inf (neg : Bool) : bits .or .u32 (if neg = true then 2147483648 else 0) 2139095040 = sgn_w neg 2139095040 := by
  cases neg
  · have h := u32_or_nat 0 2139095040 (by decide) (by decide)
    simpa [sgn_w] using h
  · have h := u32_or_nat 2147483648 2139095040 (by decide) (by decide)
    have e : (2147483648 : Nat) ||| 2139095040 = 4286578688 := by decide
    rw [e] at h
    simpa [sgn_w] using h
end Go.Proofs.YtoloenkcfpfgcaaDoor
namespace Go.Proofs.YtoloenkcfpfgcaaDoor
open Go.ChangeShapes Go.WideShapes Go.ChangeAt Go.RowKit
set_option linter.unusedVariables false
set_option maxHeartbeats 2000000 in
theorem lift86 (neg m : Bool) (z p s Z L len : Int) (w : World) (hL : (Lib.bitLen z.toNat : Int) = L) (l0 : 0 ≤ L) (l1 : L ≤ 64) (z0 : 0 ≤ z) (z1 : z < 18446744073709551616) (hs : len - L = s) (s0 : 0 ≤ s) (s1 : s ≤ 62) (hl : len ≤ 64) (hZ : z * 2 ^ s.toNat = Z) (Z0 : 0 ≤ Z) (Z1 : Z < 18446744073709551616) (p0 : -10000 ≤ p) (p1 : p ≤ 10000) :
    Calls Tryd.prog 78 #[.agg #[.bool neg, .int .u64 z, .int .i64 p, .bool m], .int .i64 len] w fun e w' => e = .returned (.agg #[.bool neg, .int .u64 Z, .int .i64 (p - s), .bool m]) ∧ Below w.heap.size w w' := by
  have hw : IntKind.u64.wrap (z * 2 ^ s.toNat) = Z := by rw [hZ, IntKind.wrap_u64]; exact Int.emod_eq_of_lt Z0 Z1
  have hlen := len64_any z z0 z1
  rw [hL] at hlen
  have HL : Hid (∀ v : World, Calls Tryd.prog 74 #[.int .u64 z] v fun e w' => e = .returned (.int .i64 L) ∧ w' = v) := hlen
  clear hL hlen hZ
  go_enter Tryd.func78, Tryd.ntmps78
  go_wp2_with (go_at_call 74; refine ((Hid.out HL) _).mono ?_; rintro e w' ⟨rfl, hw'⟩; subst w')
  exact bodyPost_ret (v := .agg #[.bool neg, .int .u64 Z, .int .i64 (p - s), .bool m]) (by simp [results, Tryd.results78, go_sem]) rfl ⟨rfl, by repeat (first | (with_reducible refine Below.setCell ?_ (by first | omega | (simp; try omega)) _) | (with_reducible refine Below.alloc ?_ (by first | omega | (simp; try omega)) _) | (with_reducible exact Below.refl _ _))⟩
theorem quot_z (A B : Nat) (E : Int) (s : Nat) (hB : 0 < B) : sa (A * 2 ^ E.toNat) (E - s) / sb (B * 2 ^ (-E).toNat) (E - s) = A * 2 ^ s / B ∧ (sa (A * 2 ^ E.toNat) (E - s) % sb (B * 2 ^ (-E).toNat) (E - s) = 0 ↔ A * 2 ^ s % B = 0) := by
  unfold sa sb
  have e : E.toNat + (-(E - (s : Int))).toNat = s + ((-E).toNat + (E - (s : Int)).toNat) := by omega
  obtain ⟨c, hc⟩ : ∃ c, (-E).toNat + (E - (s : Int)).toNat = c := ⟨_, rfl⟩
  have e1 : A * 2 ^ E.toNat * 2 ^ (-(E - (s : Int))).toNat = A * 2 ^ s * 2 ^ c := by
    rw [Nat.mul_assoc, ← Nat.pow_add, e, hc, Nat.pow_add, Nat.mul_assoc]
  have e2 : B * 2 ^ (-E).toNat * 2 ^ (E - (s : Int)).toNat = B * 2 ^ c := by rw [Nat.mul_assoc, ← Nat.pow_add, hc]
  rw [e1, e2, Nat.mul_div_mul_right _ _ (p2 c), Nat.mul_mod_mul_right]
  refine ⟨rfl, ?_⟩
  rw [Nat.mul_eq_zero]
  have := p2 c
  omega
end Go.Proofs.YtoloenkcfpfgcaaDoor
namespace Go.Proofs.YtoloenkcfpfgcaaDoor
open Go.ChangeShapes Go.WideShapes Go.ChangeAt Go.RowKit
set_option linter.unusedVariables false
/-- r is the greatest whole number whose square is not above n. -/
def IsRoot (n r : Nat) : Prop := r * r ≤ n ∧ n < (r + 1) * (r + 1)
theorem sq_lt (a b : Nat) (h : a < b) : a * a < b * b := Nat.mul_self_lt_mul_self h
theorem sq_le (a b : Nat) (h : a ≤ b) : a * a ≤ b * b := Nat.mul_self_le_mul_self h
theorem IsRoot.unique {n r s : Nat} (h : IsRoot n r) (k : IsRoot n s) : r = s := by
  rcases Nat.lt_trichotomy r s with l | l | l
  · have := sq_le (r + 1) s (by omega); have := h.2; have := k.1; omega
  · exact l
  · have := sq_le (s + 1) r (by omega); have := k.2; have := h.1; omega
set_option maxRecDepth 100000 in
set_option maxHeartbeats 2000000 in
theorem root93 (n : Nat) (hn : n < 18446744073709551616) (w : World) : Calls Tryd.prog 79 #[.int .u64 n] w fun e w' => ∃ r : Nat, IsRoot n r ∧ e = .returned (.int .u64 r) ∧ w' = w := by
  go_enter Tryd.func79, Tryd.ntmps79
  go_wp2
  go_loopw [3, 4] (fun rt bt wr => ∃ (r b c : Nat), rt = .int .u64 r ∧ bt = .int .u64 b ∧ (∃ j : Nat, c = 2 ^ j ∧ b = c / 2) ∧ r + c ≤ 4294967296 ∧ r * r ≤ n ∧ n < (r + c) * (r + c) ∧ wr = w) (fun _ bt _ => (intOf bt).toNat)
  case atStart => exact ⟨0, 2147483648, 4294967296, rfl, rfl, ⟨32, by decide, by decide⟩, by decide, by omega, by omega, rfl⟩
  case round =>
    obtain ⟨r, b, c, rfl, rfl, ⟨j, hj, hb⟩, hrc, hr0, hr1, rfl⟩ := hrel
    rcases Nat.eq_zero_or_pos b with b0 | b0
    · subst b0
      have hc : c = 1 := by
        have := Nat.pow_pos (n := j) (show 0 < 2 by decide)
        rw [← hj] at this
        omega
      subst hc
      rw [show ((0 : Nat) : Int) = 0 from rfl]
      go_wp2
      go_ret
      exact ⟨r, ⟨hr0, hr1⟩, rfl, rfl⟩
    · have hc2 : c = 2 * b ∧ ∃ i : Nat, b = 2 ^ i := by
        rcases j with _ | j
        · simp at hj; omega
        · rw [Nat.pow_succ] at hj
          exact ⟨by omega, j, by omega⟩
      obtain ⟨hc, i, hi⟩ := hc2
      clear hj
      obtain ⟨x, hx⟩ : ∃ x, r + b = x := ⟨_, rfl⟩
      obtain ⟨y, hy⟩ : ∃ y, x * x = y := ⟨_, rfl⟩
      have x1 : x < 4294967296 := by omega
      have y1 : y < 18446744073709551616 := by
        rw [← hy]
        have := sq_le x 4294967295 (by omega)
        omega
      have e1 : (r : Int) + (b : Int) = (x : Int) := by omega
      have e2 : (x : Int) * (x : Int) = (y : Int) := by rw [← hy]; simp
      have b0' : (0 : Int) < (b : Int) := by omega
      have f1 : IntKind.u64.wrap ((r : Int) + (b : Int)) = (x : Int) := by rw [e1, IntKind.wrap_u64]; omega
      have f2 : IntKind.u64.wrap ((x : Int) * (x : Int)) = (y : Int) := by rw [e2, IntKind.wrap_u64]; omega
      have f3 : IntKind.u64.wrap ((b : Int) / 2) = ((b / 2 : Nat) : Int) := by rw [IntKind.wrap_u64]; omega
      have d2 : Int.tdiv (b : Int) 2 = ((b / 2 : Nat) : Int) := by rw [Int.tdiv_eq_ediv_of_nonneg (by omega)]; omega
      have hb2 : ∃ i : Nat, b = 2 ^ i ∧ b / 2 = b / 2 := ⟨i, hi, rfl⟩
      have HH : Hid (r + b = x ∧ x * x = y ∧ c = 2 * b ∧ (∃ i : Nat, b = 2 ^ i ∧ b / 2 = b / 2) ∧ r * r ≤ n ∧ n < (r + c) * (r + c) ∧ r + c ≤ 4294967296) := ⟨hx, hy, hc, hb2, hr0, hr1, hrc⟩
      clear hx hy hc hb2 hr0 hr1 hrc e1 e2 hi hb
      by_cases hle : y ≤ n
      · have hle' : (y : Int) ≤ (n : Int) := by omega
        go_wp2
        obtain ⟨hx, hy, hc, hb2, hr0, hr1, hrc⟩ := HH.out
        go_roundw
        case rel => exact ⟨x, b / 2, b, rfl, by first | rfl | (rw [f3]), hb2, by omega, by rw [hy]; exact hle, by rw [show x + b = r + c by omega]; exact hr1, by first | rfl | trivial⟩
        case measure => (try rw [f3]); simp [intOf]; omega
      · have hle' : ¬ (y : Int) ≤ (n : Int) := by omega
        go_wp2
        obtain ⟨hx, hy, hc, hb2, hr0, hr1, hrc⟩ := HH.out
        go_roundw
        case rel => exact ⟨r, b / 2, b, rfl, by first | rfl | (rw [f3]), hb2, by omega, hr0, by rw [hx, hy]; omega, by first | rfl | trivial⟩
        case measure => (try rw [f3]); simp [intOf]; omega
theorem set4h {w : World} {b : Nat} {x0 x1 x2 x3 y0 y1 y2 y3 : Value} {t : TypeId} (h : w.heap[b]? = some (.cells #[x0, x1, x2, x3] t (0, 0))) :
    ((((w.setCell ⟨b, 0, none⟩ y0).setCell ⟨b, 1, none⟩ y1).setCell ⟨b, 2, none⟩ y2).setCell ⟨b, 3, none⟩ y3).heap[b]? = some (.cells #[y0, y1, y2, y3] t (0, 0)) := by
  have hb : b < w.heap.size := lt_of_block h
  have e : w.heap[b] = .cells #[x0, x1, x2, x3] t (0, 0) := by
    have := Array.getElem?_eq_getElem hb
    rw [this] at h; exact Option.some.inj h
  simp [World.setCell, Array.getElem?_modify, h]
theorem set4_ne {w : World} {b k : Nat} {y0 y1 y2 y3 : Value} (hk : k ≠ b) :
    ((((w.setCell ⟨b, 0, none⟩ y0).setCell ⟨b, 1, none⟩ y1).setCell ⟨b, 2, none⟩ y2).setCell ⟨b, 3, none⟩ y3).heap[k]? = w.heap[k]? := by
  rw [Below.heap_setCell _ _ _ _ hk, Below.heap_setCell _ _ _ _ hk, Below.heap_setCell _ _ _ _ hk, Below.heap_setCell _ _ _ _ hk]
theorem ne_dec (q Z : Nat) : ((q : Int) != (Z : Int)) = decide (q ≠ Z) := by
  by_cases h : q = Z
  · subst h; simp
  · have h' : ¬ (q : Int) = (Z : Int) := by omega
    rw [decide_eq_true h]
    simpa using h'
set_option maxRecDepth 100000 in
set_option maxHeartbeats 4000000 in
theorem rootOf66 (S : Nat) (p : Int) (S0 : 0 < S) (S1 : S < 16777216) (p0 : -149 ≤ p) (p1 : p ≤ 105) (w : World) :
    Calls Tryd.prog 56 #[.agg #[.bool false, .int .u64 S, .int .i64 p, .bool false]] w fun e w' => (∃ (Z r k : Nat) (E : Int) (m : Bool), e = .returned (.agg #[.bool false, .int .u64 r, .int .i64 E, .bool m]) ∧ IsRoot Z r ∧ Z = S * 2 ^ k ∧ 2 * E = p - (k : Int) ∧ 1152921504606846976 ≤ Z ∧ Z < 4611686018427387904 ∧ m = decide (r * r ≠ Z)) ∧ Below w.heap.size w w' := by
  obtain ⟨L0, lb0, lb1⟩ := bitLen_spec S S0 (by omega)
  have l24 := Lib.bitLen_le S 24 (by decide) (by omega)
  obtain ⟨L, hL⟩ : ∃ L, Lib.bitLen S = L := ⟨_, rfl⟩
  rw [hL] at L0 lb0 lb1 l24
  obtain ⟨k, hk⟩ : ∃ k, 61 - L = k := ⟨_, rfl⟩
  obtain ⟨Z, hZ⟩ : ∃ Z, S * 2 ^ k = Z := ⟨_, rfl⟩
  have Z0 : 1152921504606846976 ≤ Z := by
    have e : 2 ^ (L - 1) * 2 ^ k ≤ S * 2 ^ k := Nat.mul_le_mul_right _ lb0
    rw [← Nat.pow_add, show L - 1 + k = 60 by omega, hZ] at e
    omega
  have Z1 : Z < 2305843009213693952 := by
    have e : S * 2 ^ k < 2 ^ L * 2 ^ k := Nat.mul_lt_mul_of_pos_right lb1 (p2 _)
    rw [← Nat.pow_add, show L + k = 61 by omega, hZ] at e
    omega
  have zb : Lib.bitLen Z = 61 := by
    obtain ⟨_, b0, b1⟩ := bitLen_spec Z (by omega) (by omega)
    have a1 := Lib.bitLen_le Z 61 (by decide) (by omega)
    obtain ⟨M, hM⟩ : ∃ M, Lib.bitLen Z = M := ⟨_, rfl⟩
    rw [hM] at b0 b1 a1 ⊢
    rcases Nat.lt_or_ge M 61 with g | g
    · have : 2 ^ M ≤ 2 ^ 60 := Nat.pow_le_pow_right (by decide) (by omega)
      omega
    · omega
  have H1 : Hid (∀ v : World, Calls Tryd.prog 78 #[.agg #[.bool false, .int .u64 S, .int .i64 p, .bool false], .int .i64 61] v fun e w' => e = .returned (.agg #[.bool false, .int .u64 Z, .int .i64 (p - k), .bool false]) ∧ Below v.heap.size v w') := fun v =>
    lift86 false false (S : Int) p (k : Int) (Z : Int) (L : Int) 61 v (by rw [show ((S : Nat) : Int).toNat = S by omega, hL]) (by omega) (by omega) (by omega) (by omega) (by omega) (by omega) (by omega) (by decide) (by rw [show ((k : Nat) : Int).toNat = k by omega, ← hZ]; simp) (by omega) (by omega) (by omega) (by omega)
  obtain ⟨P, hP⟩ : ∃ P, p - (k : Int) = P := ⟨_, rfl⟩
  rw [hP] at H1
  have P0 : -300 ≤ P := by omega
  have P1 : P ≤ 105 := by omega
  have H2 : Hid (∀ v : World, Calls Tryd.prog 78 #[.agg #[.bool false, .int .u64 Z, .int .i64 P, .bool false], .int .i64 62] v fun e w' => e = .returned (.agg #[.bool false, .int .u64 ((2 * Z : Nat) : Int), .int .i64 (P - 1), .bool false]) ∧ Below v.heap.size v w') := fun v =>
    lift86 false false (Z : Int) P 1 ((2 * Z : Nat) : Int) 61 62 v (by rw [show ((Z : Nat) : Int).toNat = Z by omega, zb]; rfl) (by omega) (by omega) (by omega) (by omega) (by omega) (by omega) (by omega) (by decide) (by rw [show (1 : Int).toNat = 1 from rfl]; omega) (by omega) (by omega) (by omega) (by omega)
  have HR : Hid (∀ (n : Nat), n < 18446744073709551616 → ∀ v : World, Calls Tryd.prog 79 #[.int .u64 n] v fun e w' => ∃ r : Nat, IsRoot n r ∧ e = .returned (.int .u64 r) ∧ w' = v) := fun n hn v => root93 n hn v
  have HZ : Hid (S * 2 ^ k = Z ∧ 61 - L = k) := ⟨hZ, hk⟩
  clear hL lb0 lb1 hZ hk zb
  by_cases ev : P % 2 = 0
  · obtain ⟨E, hE⟩ : ∃ E, P = 2 * E := ⟨P / 2, by omega⟩
    have t0 : Int.tmod P 2 = 0 := by rw [hE, Int.mul_comm]; exact Int.mul_tmod_left _ _
    have t1 : Int.tdiv P 2 = E := by rw [hE]; exact Int.mul_tdiv_cancel_left _ (by decide)
    go_enter Tryd.func56, Tryd.ntmps56
    go_wp2_with (first | (go_at_call 78; (with_reducible show Calls Tryd.prog 78 #[_, Value.int IntKind.i64 61] _ _); refine ((Hid.out H1) _).mono ?_; rintro e w1 ⟨rfl, B1⟩; (have X1 : w1.heap[w.heap.size]? = some (.cells #[.bool false, .int .u64 S, .int .i64 p, .bool false] 72 (0, 0)) := (B1.block w.heap.size (by first | (simp; done) | (simp; omega))).trans ((Below.heap_alloc _ _ _ (by first | (simp; done) | (simp; omega))).trans (heap_alloc_new _ _))); (have Y1 : w1.heap[w.heap.size + 1]? = some (.cells #[.bool false, .int .u64 0, .int .i64 0, .bool false] 72 (0, 0)) := (B1.block (w.heap.size + 1) (by first | (simp; done) | (simp; omega))).trans (heap_alloc_at (by first | (simp; done) | (simp; omega)))); (have z1 := B1.size); (try simp at z1); obtain ⟨⟨x0, x1, x2, x3⟩, x4, x5, x6, x7⟩ := blk4 X1; obtain ⟨⟨y0, y1, y2, y3⟩, y4, y5, y6, y7⟩ := blk4 Y1) | (go_at_call 79; refine ((Hid.out HR) Z (by omega) _).mono ?_; rintro e w' ⟨r, hr, rfl, hw⟩; subst w'; obtain ⟨q, hq⟩ : ∃ q, r * r = q := ⟨_, rfl⟩; (have q1 : q ≤ Z := by rw [← hq]; exact hr.1); (have f2 : IntKind.u64.wrap ((r : Int) * (r : Int)) = (q : Int) := by rw [IntKind.wrap_u64, show (r : Int) * (r : Int) = (q : Int) by rw [← hq]; simp]; omega); (have HQ : Hid (r * r = q ∧ IsRoot (Z) r) := ⟨hq, hr⟩); clear hq hr))
    obtain ⟨hq, hr⟩ := HQ.out
    obtain ⟨hZ, hk⟩ := HZ.out
    exact bodyPost_ret (v := .agg #[.bool false, .int .u64 r, .int .i64 E, .bool ((q : Int) != ((Z : Nat) : Int))]) (by simp [results, Tryd.results56, go_sem, y0, y1, y2, y3]; try exact wr64 E (by omega) (by omega)) rfl ⟨⟨Z, r, k, E, _, rfl, hr, hZ.symm, by omega, by omega, by omega, by rw [hq]; exact ne_dec q (Z)⟩, by repeat (first | (with_reducible refine Below.setCell ?_ (by first | omega | (simp; try omega)) _) | (with_reducible refine Below.trans ?_ (B1.mono (by first | omega | (simp; try omega)))) | (with_reducible refine Below.alloc ?_ (by first | omega | (simp; try omega)) _) | (with_reducible exact Below.refl _ _))⟩
  · obtain ⟨E, hE⟩ : ∃ E, P = 2 * E + 1 := ⟨P / 2, by omega⟩
    have t0 : ¬ Int.tmod P 2 = 0 := by intro h; have := Int.mul_tdiv_add_tmod P 2; omega
    have t0' : (Int.tmod P 2 == 0) = false := by simpa using t0
    have t1 : Int.tdiv (P - 1) 2 = E := by rw [show P - 1 = 2 * E by omega]; exact Int.mul_tdiv_cancel_left _ (by decide)
    have E0 : -200 ≤ E := by omega
    have E1 : E ≤ 200 := by omega
    have HE : Hid (P = 2 * E + 1) := hE
    clear hE
    go_enter Tryd.func56, Tryd.ntmps56
    go_wp2_with (first | (go_at_call 78; (with_reducible show Calls Tryd.prog 78 #[_, Value.int IntKind.i64 61] _ _); refine ((Hid.out H1) _).mono ?_; rintro e w1 ⟨rfl, B1⟩; (have X1 : w1.heap[w.heap.size]? = some (.cells #[.bool false, .int .u64 S, .int .i64 p, .bool false] 72 (0, 0)) := (B1.block w.heap.size (by first | (simp; done) | (simp; omega))).trans ((Below.heap_alloc _ _ _ (by first | (simp; done) | (simp; omega))).trans (heap_alloc_new _ _))); (have Y1 : w1.heap[w.heap.size + 1]? = some (.cells #[.bool false, .int .u64 0, .int .i64 0, .bool false] 72 (0, 0)) := (B1.block (w.heap.size + 1) (by first | (simp; done) | (simp; omega))).trans (heap_alloc_at (by first | (simp; done) | (simp; omega)))); (have z1 := B1.size); (try simp at z1); obtain ⟨⟨x0, x1, x2, x3⟩, x4, x5, x6, x7⟩ := blk4 X1; obtain ⟨⟨y0, y1, y2, y3⟩, y4, y5, y6, y7⟩ := blk4 Y1) | (go_at_call 78; (with_reducible show Calls Tryd.prog 78 #[_, Value.int IntKind.i64 62] _ _); refine ((Hid.out H2) _).mono ?_; rintro e w2 ⟨rfl, B2⟩; (have X2 : w2.heap[w.heap.size]? = some (.cells #[.bool false, .int .u64 Z, .int .i64 P, .bool false] 72 (0, 0)) := (B2.block w.heap.size (by simp; omega)).trans (set4h X1)); (have Y2 : w2.heap[w.heap.size + 1]? = some (.cells #[.bool false, .int .u64 0, .int .i64 0, .bool false] 72 (0, 0)) := (B2.block (w.heap.size + 1) (by simp; omega)).trans ((set4_ne (by omega)).trans Y1)); (have z2 := B2.size); (try simp at z2); (clear x0 x1 x2 x3 x4 x5 x6 x7 y0 y1 y2 y3 y4 y5 y6 y7); obtain ⟨⟨x0, x1, x2, x3⟩, x4, x5, x6, x7⟩ := blk4 X2; obtain ⟨⟨y0, y1, y2, y3⟩, y4, y5, y6, y7⟩ := blk4 Y2) | (go_at_call 79; refine ((Hid.out HR) (2 * Z) (by omega) _).mono ?_; rintro e w' ⟨r, hr, rfl, hw⟩; subst w'; obtain ⟨q, hq⟩ : ∃ q, r * r = q := ⟨_, rfl⟩; (have q1 : q ≤ (2 * Z) := by rw [← hq]; exact hr.1); (have f2 : IntKind.u64.wrap ((r : Int) * (r : Int)) = (q : Int) := by rw [IntKind.wrap_u64, show (r : Int) * (r : Int) = (q : Int) by rw [← hq]; simp]; omega); (have HQ : Hid (r * r = q ∧ IsRoot ((2 * Z)) r) := ⟨hq, hr⟩); clear hq hr))
    have hE := HE.out
    obtain ⟨hq, hr⟩ := HQ.out
    obtain ⟨hZ, hk⟩ := HZ.out
    exact bodyPost_ret (v := .agg #[.bool false, .int .u64 r, .int .i64 E, .bool ((q : Int) != ((2 * Z : Nat) : Int))]) (by simp [results, Tryd.results56, go_sem, y0, y1, y2, y3]; try exact wr64 E (by omega) (by omega)) rfl ⟨⟨2 * Z, r, k + 1, E, _, rfl, hr, by rw [Nat.pow_succ, ← hZ, Nat.mul_comm 2, Nat.mul_assoc], by omega, by omega, by omega, by rw [hq]; exact ne_dec q (2 * Z)⟩, by repeat (first | (with_reducible refine Below.setCell ?_ (by first | omega | (simp; try omega)) _) | (with_reducible refine Below.trans ?_ (B2.mono (by first | omega | (simp; try omega)))) | (with_reducible refine Below.trans ?_ (B1.mono (by first | omega | (simp; try omega)))) | (with_reducible refine Below.alloc ?_ (by first | omega | (simp; try omega)) _) | (with_reducible exact Below.refl _ _))⟩
end Go.Proofs.YtoloenkcfpfgcaaDoor
