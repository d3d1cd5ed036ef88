/- The program's roots of whole numbers and of numbers with a power (wholeRoot, rootOf): what they answer; no conditions but that sizes fit. -/
import Derived.Test.YtamoakodlmjbiaaDoorQuot
namespace Go.Proofs.YtamoakodlmjbiaaDoor
open Go.ChangeShapes Go.WideShapes Go.ChangeAt Go.RowKit
set_option linter.unusedVariables false
/-- r is the greatest whole number whose square is not above n. -/
def IsRoot (n r : Nat) : Prop := r * r ≤ n ∧ n < (r + 1) * (r + 1)
theorem sq_lt (a b : Nat) (h : a < b) : a * a < b * b := Nat.mul_self_lt_mul_self h
theorem sq_le (a b : Nat) (h : a ≤ b) : a * a ≤ b * b := Nat.mul_self_le_mul_self h
theorem IsRoot.unique {n r s : Nat} (h : IsRoot n r) (k : IsRoot n s) : r = s := by
  rcases Nat.lt_trichotomy r s with l | l | l
  · have := sq_le (r + 1) s (by omega); have := h.2; have := k.1; omega
  · exact l
  · have := sq_le (s + 1) r (by omega); have := k.2; have := h.1; omega
set_option maxRecDepth 100000 in
set_option maxHeartbeats 2000000 in
theorem root93 (n : Nat) (hn : n < 18446744073709551616) (w : World) : Calls Tryd.prog 93 #[.int .u64 n] w fun e w' => ∃ r : Nat, IsRoot n r ∧ e = .returned (.int .u64 r) ∧ w' = w := by
  go_enter Tryd.func93, Tryd.ntmps93
  go_wp2
  go_loopw [3, 4] (fun rt bt wr => ∃ (r b c : Nat), rt = .int .u64 r ∧ bt = .int .u64 b ∧ (∃ j : Nat, c = 2 ^ j ∧ b = c / 2) ∧ r + c ≤ 4294967296 ∧ r * r ≤ n ∧ n < (r + c) * (r + c) ∧ wr = w) (fun _ bt _ => (intOf bt).toNat)
  case atStart => exact ⟨0, 2147483648, 4294967296, rfl, rfl, ⟨32, by decide, by decide⟩, by decide, by omega, by omega, rfl⟩
  case round =>
    obtain ⟨r, b, c, rfl, rfl, ⟨j, hj, hb⟩, hrc, hr0, hr1, rfl⟩ := hrel
    rcases Nat.eq_zero_or_pos b with b0 | b0
    · subst b0
      have hc : c = 1 := by
        have := Nat.pow_pos (n := j) (show 0 < 2 by decide)
        rw [← hj] at this
        omega
      subst hc
      rw [show ((0 : Nat) : Int) = 0 from rfl]
      go_wp2
      go_ret
      exact ⟨r, ⟨hr0, hr1⟩, rfl, rfl⟩
    · have hc2 : c = 2 * b ∧ ∃ i : Nat, b = 2 ^ i := by
        rcases j with _ | j
        · simp at hj; omega
        · rw [Nat.pow_succ] at hj
          exact ⟨by omega, j, by omega⟩
      obtain ⟨hc, i, hi⟩ := hc2
      clear hj
      obtain ⟨x, hx⟩ : ∃ x, r + b = x := ⟨_, rfl⟩
      obtain ⟨y, hy⟩ : ∃ y, x * x = y := ⟨_, rfl⟩
      have x1 : x < 4294967296 := by omega
      have y1 : y < 18446744073709551616 := by
        rw [← hy]
        have := sq_le x 4294967295 (by omega)
        omega
      have e1 : (r : Int) + (b : Int) = (x : Int) := by omega
      have e2 : (x : Int) * (x : Int) = (y : Int) := by rw [← hy]; simp
      have b0' : (0 : Int) < (b : Int) := by omega
      have f1 : IntKind.u64.wrap ((r : Int) + (b : Int)) = (x : Int) := by rw [e1, IntKind.wrap_u64]; omega
      have f2 : IntKind.u64.wrap ((x : Int) * (x : Int)) = (y : Int) := by rw [e2, IntKind.wrap_u64]; omega
      have f3 : IntKind.u64.wrap ((b : Int) / 2) = ((b / 2 : Nat) : Int) := by rw [IntKind.wrap_u64]; omega
      have d2 : Int.tdiv (b : Int) 2 = ((b / 2 : Nat) : Int) := by rw [Int.tdiv_eq_ediv_of_nonneg (by omega)]; omega
      have hb2 : ∃ i : Nat, b = 2 ^ i ∧ b / 2 = b / 2 := ⟨i, hi, rfl⟩
      have HH : Hid (r + b = x ∧ x * x = y ∧ c = 2 * b ∧ (∃ i : Nat, b = 2 ^ i ∧ b / 2 = b / 2) ∧ r * r ≤ n ∧ n < (r + c) * (r + c) ∧ r + c ≤ 4294967296) := ⟨hx, hy, hc, hb2, hr0, hr1, hrc⟩
      clear hx hy hc hb2 hr0 hr1 hrc e1 e2 hi hb
      by_cases hle : y ≤ n
      · have hle' : (y : Int) ≤ (n : Int) := by omega
        go_wp2
        obtain ⟨hx, hy, hc, hb2, hr0, hr1, hrc⟩ := HH.out
        go_roundw
        case rel => exact ⟨x, b / 2, b, rfl, by first | rfl | (rw [f3]), hb2, by omega, by rw [hy]; exact hle, by rw [show x + b = r + c by omega]; exact hr1, by first | rfl | trivial⟩
        case measure => (try rw [f3]); simp [intOf]; omega
      · have hle' : ¬ (y : Int) ≤ (n : Int) := by omega
        go_wp2
        obtain ⟨hx, hy, hc, hb2, hr0, hr1, hrc⟩ := HH.out
        go_roundw
        case rel => exact ⟨r, b / 2, b, rfl, by first | rfl | (rw [f3]), hb2, by omega, hr0, by rw [hx, hy]; omega, by first | rfl | trivial⟩
        case measure => (try rw [f3]); simp [intOf]; omega
theorem set4h {w : World} {b : Nat} {x0 x1 x2 x3 y0 y1 y2 y3 : Value} {t : TypeId} (h : w.heap[b]? = some (.cells #[x0, x1, x2, x3] t (0, 0))) :
    ((((w.setCell ⟨b, 0, none⟩ y0).setCell ⟨b, 1, none⟩ y1).setCell ⟨b, 2, none⟩ y2).setCell ⟨b, 3, none⟩ y3).heap[b]? = some (.cells #[y0, y1, y2, y3] t (0, 0)) := by
  have hb : b < w.heap.size := lt_of_block h
  have e : w.heap[b] = .cells #[x0, x1, x2, x3] t (0, 0) := by
    have := Array.getElem?_eq_getElem hb
    rw [this] at h; exact Option.some.inj h
  simp [World.setCell, Array.getElem?_modify, h]
theorem set4_ne {w : World} {b k : Nat} {y0 y1 y2 y3 : Value} (hk : k ≠ b) :
    ((((w.setCell ⟨b, 0, none⟩ y0).setCell ⟨b, 1, none⟩ y1).setCell ⟨b, 2, none⟩ y2).setCell ⟨b, 3, none⟩ y3).heap[k]? = w.heap[k]? := by
  rw [Below.heap_setCell _ _ _ _ hk, Below.heap_setCell _ _ _ _ hk, Below.heap_setCell _ _ _ _ hk, Below.heap_setCell _ _ _ _ hk]
theorem ne_dec (q Z : Nat) : ((q : Int) != (Z : Int)) = decide (q ≠ Z) := by
  by_cases h : q = Z
  · subst h; simp
  · have h' : ¬ (q : Int) = (Z : Int) := by omega
    rw [decide_eq_true h]
    simpa using h'
set_option maxRecDepth 100000 in
set_option maxHeartbeats 4000000 in
theorem rootOf66 (S : Nat) (p : Int) (S0 : 0 < S) (S1 : S < 16777216) (p0 : -149 ≤ p) (p1 : p ≤ 105) (w : World) :
    Calls Tryd.prog 66 #[.agg #[.bool false, .int .u64 S, .int .i64 p, .bool false]] w fun e w' => (∃ (Z r k : Nat) (E : Int) (m : Bool), e = .returned (.agg #[.bool false, .int .u64 r, .int .i64 E, .bool m]) ∧ IsRoot Z r ∧ Z = S * 2 ^ k ∧ 2 * E = p - (k : Int) ∧ 1152921504606846976 ≤ Z ∧ Z < 4611686018427387904 ∧ m = decide (r * r ≠ Z)) ∧ Below w.heap.size w w' := by
  obtain ⟨L0, lb0, lb1⟩ := bitLen_spec S S0 (by omega)
  have l24 := Lib.bitLen_le S 24 (by decide) (by omega)
  obtain ⟨L, hL⟩ : ∃ L, Lib.bitLen S = L := ⟨_, rfl⟩
  rw [hL] at L0 lb0 lb1 l24
  obtain ⟨k, hk⟩ : ∃ k, 61 - L = k := ⟨_, rfl⟩
  obtain ⟨Z, hZ⟩ : ∃ Z, S * 2 ^ k = Z := ⟨_, rfl⟩
  have Z0 : 1152921504606846976 ≤ Z := by
    have e : 2 ^ (L - 1) * 2 ^ k ≤ S * 2 ^ k := Nat.mul_le_mul_right _ lb0
    rw [← Nat.pow_add, show L - 1 + k = 60 by omega, hZ] at e
    omega
  have Z1 : Z < 2305843009213693952 := by
    have e : S * 2 ^ k < 2 ^ L * 2 ^ k := Nat.mul_lt_mul_of_pos_right lb1 (p2 _)
    rw [← Nat.pow_add, show L + k = 61 by omega, hZ] at e
    omega
  have zb : Lib.bitLen Z = 61 := by
    obtain ⟨_, b0, b1⟩ := bitLen_spec Z (by omega) (by omega)
    have a1 := Lib.bitLen_le Z 61 (by decide) (by omega)
    obtain ⟨M, hM⟩ : ∃ M, Lib.bitLen Z = M := ⟨_, rfl⟩
    rw [hM] at b0 b1 a1 ⊢
    rcases Nat.lt_or_ge M 61 with g | g
    · have : 2 ^ M ≤ 2 ^ 60 := Nat.pow_le_pow_right (by decide) (by omega)
      omega
    · omega
  have H1 : Hid (∀ v : World, Calls Tryd.prog 86 #[.agg #[.bool false, .int .u64 S, .int .i64 p, .bool false], .int .i64 61] v fun e w' => e = .returned (.agg #[.bool false, .int .u64 Z, .int .i64 (p - k), .bool false]) ∧ Below v.heap.size v w') := fun v =>
    lift86 false false (S : Int) p (k : Int) (Z : Int) (L : Int) 61 v (by rw [show ((S : Nat) : Int).toNat = S by omega, hL]) (by omega) (by omega) (by omega) (by omega) (by omega) (by omega) (by omega) (by decide) (by rw [show ((k : Nat) : Int).toNat = k by omega, ← hZ]; simp) (by omega) (by omega) (by omega) (by omega)
  obtain ⟨P, hP⟩ : ∃ P, p - (k : Int) = P := ⟨_, rfl⟩
  rw [hP] at H1
  have P0 : -300 ≤ P := by omega
  have P1 : P ≤ 105 := by omega
  have H2 : Hid (∀ v : World, Calls Tryd.prog 86 #[.agg #[.bool false, .int .u64 Z, .int .i64 P, .bool false], .int .i64 62] v fun e w' => e = .returned (.agg #[.bool false, .int .u64 ((2 * Z : Nat) : Int), .int .i64 (P - 1), .bool false]) ∧ Below v.heap.size v w') := fun v =>
    lift86 false false (Z : Int) P 1 ((2 * Z : Nat) : Int) 61 62 v (by rw [show ((Z : Nat) : Int).toNat = Z by omega, zb]; rfl) (by omega) (by omega) (by omega) (by omega) (by omega) (by omega) (by omega) (by decide) (by rw [show (1 : Int).toNat = 1 from rfl]; omega) (by omega) (by omega) (by omega) (by omega)
  have HR : Hid (∀ (n : Nat), n < 18446744073709551616 → ∀ v : World, Calls Tryd.prog 93 #[.int .u64 n] v fun e w' => ∃ r : Nat, IsRoot n r ∧ e = .returned (.int .u64 r) ∧ w' = v) := fun n hn v => root93 n hn v
  have HZ : Hid (S * 2 ^ k = Z ∧ 61 - L = k) := ⟨hZ, hk⟩
  clear hL lb0 lb1 hZ hk zb
  by_cases ev : P % 2 = 0
  · obtain ⟨E, hE⟩ : ∃ E, P = 2 * E := ⟨P / 2, by omega⟩
    have t0 : Int.tmod P 2 = 0 := by rw [hE, Int.mul_comm]; exact Int.mul_tmod_left _ _
    have t1 : Int.tdiv P 2 = E := by rw [hE]; exact Int.mul_tdiv_cancel_left _ (by decide)
    go_enter Tryd.func66, Tryd.ntmps66
    go_wp2_with (first | (go_at_call 86; (with_reducible show Calls Tryd.prog 86 #[_, Value.int IntKind.i64 61] _ _); refine ((Hid.out H1) _).mono ?_; rintro e w1 ⟨rfl, B1⟩; (have X1 : w1.heap[w.heap.size]? = some (.cells #[.bool false, .int .u64 S, .int .i64 p, .bool false] 72 (0, 0)) := (B1.block w.heap.size (by first | (simp; done) | (simp; omega))).trans ((Below.heap_alloc _ _ _ (by first | (simp; done) | (simp; omega))).trans (heap_alloc_new _ _))); (have Y1 : w1.heap[w.heap.size + 1]? = some (.cells #[.bool false, .int .u64 0, .int .i64 0, .bool false] 72 (0, 0)) := (B1.block (w.heap.size + 1) (by first | (simp; done) | (simp; omega))).trans (heap_alloc_at (by first | (simp; done) | (simp; omega)))); (have z1 := B1.size); (try simp at z1); obtain ⟨⟨x0, x1, x2, x3⟩, x4, x5, x6, x7⟩ := blk4 X1; obtain ⟨⟨y0, y1, y2, y3⟩, y4, y5, y6, y7⟩ := blk4 Y1) | (go_at_call 93; refine ((Hid.out HR) Z (by omega) _).mono ?_; rintro e w' ⟨r, hr, rfl, hw⟩; subst w'; obtain ⟨q, hq⟩ : ∃ q, r * r = q := ⟨_, rfl⟩; (have q1 : q ≤ Z := by rw [← hq]; exact hr.1); (have f2 : IntKind.u64.wrap ((r : Int) * (r : Int)) = (q : Int) := by rw [IntKind.wrap_u64, show (r : Int) * (r : Int) = (q : Int) by rw [← hq]; simp]; omega); (have HQ : Hid (r * r = q ∧ IsRoot (Z) r) := ⟨hq, hr⟩); clear hq hr))
    obtain ⟨hq, hr⟩ := HQ.out
    obtain ⟨hZ, hk⟩ := HZ.out
    exact bodyPost_ret (v := .agg #[.bool false, .int .u64 r, .int .i64 E, .bool ((q : Int) != ((Z : Nat) : Int))]) (by simp [results, Tryd.results66, go_sem, y0, y1, y2, y3]; try exact wr64 E (by omega) (by omega)) rfl ⟨⟨Z, r, k, E, _, rfl, hr, hZ.symm, by omega, by omega, by omega, by rw [hq]; exact ne_dec q (Z)⟩, by repeat (first | (with_reducible refine Below.setCell ?_ (by first | omega | (simp; try omega)) _) | (with_reducible refine Below.trans ?_ (B1.mono (by first | omega | (simp; try omega)))) | (with_reducible refine Below.alloc ?_ (by first | omega | (simp; try omega)) _) | (with_reducible exact Below.refl _ _))⟩
  · obtain ⟨E, hE⟩ : ∃ E, P = 2 * E + 1 := ⟨P / 2, by omega⟩
    have t0 : ¬ Int.tmod P 2 = 0 := by intro h; have := Int.mul_tdiv_add_tmod P 2; omega
    have t0' : (Int.tmod P 2 == 0) = false := by simpa using t0
    have t1 : Int.tdiv (P - 1) 2 = E := by rw [show P - 1 = 2 * E by omega]; exact Int.mul_tdiv_cancel_left _ (by decide)
    have E0 : -200 ≤ E := by omega
    have E1 : E ≤ 200 := by omega
    have HE : Hid (P = 2 * E + 1) := hE
    clear hE
    go_enter Tryd.func66, Tryd.ntmps66
    go_wp2_with (first | (go_at_call 86; (with_reducible show Calls Tryd.prog 86 #[_, Value.int IntKind.i64 61] _ _); refine ((Hid.out H1) _).mono ?_; rintro e w1 ⟨rfl, B1⟩; (have X1 : w1.heap[w.heap.size]? = some (.cells #[.bool false, .int .u64 S, .int .i64 p, .bool false] 72 (0, 0)) := (B1.block w.heap.size (by first | (simp; done) | (simp; omega))).trans ((Below.heap_alloc _ _ _ (by first | (simp; done) | (simp; omega))).trans (heap_alloc_new _ _))); (have Y1 : w1.heap[w.heap.size + 1]? = some (.cells #[.bool false, .int .u64 0, .int .i64 0, .bool false] 72 (0, 0)) := (B1.block (w.heap.size + 1) (by first | (simp; done) | (simp; omega))).trans (heap_alloc_at (by first | (simp; done) | (simp; omega)))); (have z1 := B1.size); (try simp at z1); obtain ⟨⟨x0, x1, x2, x3⟩, x4, x5, x6, x7⟩ := blk4 X1; obtain ⟨⟨y0, y1, y2, y3⟩, y4, y5, y6, y7⟩ := blk4 Y1) | (go_at_call 86; (with_reducible show Calls Tryd.prog 86 #[_, Value.int IntKind.i64 62] _ _); refine ((Hid.out H2) _).mono ?_; rintro e w2 ⟨rfl, B2⟩; (have X2 : w2.heap[w.heap.size]? = some (.cells #[.bool false, .int .u64 Z, .int .i64 P, .bool false] 72 (0, 0)) := (B2.block w.heap.size (by simp; omega)).trans (set4h X1)); (have Y2 : w2.heap[w.heap.size + 1]? = some (.cells #[.bool false, .int .u64 0, .int .i64 0, .bool false] 72 (0, 0)) := (B2.block (w.heap.size + 1) (by simp; omega)).trans ((set4_ne (by omega)).trans Y1)); (have z2 := B2.size); (try simp at z2); (clear x0 x1 x2 x3 x4 x5 x6 x7 y0 y1 y2 y3 y4 y5 y6 y7); obtain ⟨⟨x0, x1, x2, x3⟩, x4, x5, x6, x7⟩ := blk4 X2; obtain ⟨⟨y0, y1, y2, y3⟩, y4, y5, y6, y7⟩ := blk4 Y2) | (go_at_call 93; refine ((Hid.out HR) (2 * Z) (by omega) _).mono ?_; rintro e w' ⟨r, hr, rfl, hw⟩; subst w'; obtain ⟨q, hq⟩ : ∃ q, r * r = q := ⟨_, rfl⟩; (have q1 : q ≤ (2 * Z) := by rw [← hq]; exact hr.1); (have f2 : IntKind.u64.wrap ((r : Int) * (r : Int)) = (q : Int) := by rw [IntKind.wrap_u64, show (r : Int) * (r : Int) = (q : Int) by rw [← hq]; simp]; omega); (have HQ : Hid (r * r = q ∧ IsRoot ((2 * Z)) r) := ⟨hq, hr⟩); clear hq hr))
    have hE := HE.out
    obtain ⟨hq, hr⟩ := HQ.out
    obtain ⟨hZ, hk⟩ := HZ.out
    exact bodyPost_ret (v := .agg #[.bool false, .int .u64 r, .int .i64 E, .bool ((q : Int) != ((2 * Z : Nat) : Int))]) (by simp [results, Tryd.results66, go_sem, y0, y1, y2, y3]; try exact wr64 E (by omega) (by omega)) rfl ⟨⟨2 * Z, r, k + 1, E, _, rfl, hr, by rw [Nat.pow_succ, ← hZ, Nat.mul_comm 2, Nat.mul_assoc], by omega, by omega, by omega, by rw [hq]; exact ne_dec q (2 * Z)⟩, by repeat (first | (with_reducible refine Below.setCell ?_ (by first | omega | (simp; try omega)) _) | (with_reducible refine Below.trans ?_ (B2.mono (by first | omega | (simp; try omega)))) | (with_reducible refine Below.trans ?_ (B1.mono (by first | omega | (simp; try omega)))) | (with_reducible refine Below.alloc ?_ (by first | omega | (simp; try omega)) _) | (with_reducible exact Below.refl _ _))⟩
end Go.Proofs.YtamoakodlmjbiaaDoor
