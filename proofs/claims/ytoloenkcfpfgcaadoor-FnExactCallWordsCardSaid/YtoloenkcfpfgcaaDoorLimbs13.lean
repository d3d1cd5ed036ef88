/- What numbers stand for: those that hold a row of limbs, and plain ones of one or two limbs, 0 left out. Contract of the model's l1Mul over two plain numbers whose product is not one; conditions: both below 10^18 in size, neither 0. What it is that a value stands for a whole number, small or of limbs, and the contract of the model's l1Mul over it where neither number is 0; conditions: at most 100,000 limbs together. Contract of the model's l1Power: 2 to the n, n from 0 to 1000. -/
import Derived.Test.YtoloenkcfpfgcaaDoorLimbs9
namespace Go.Proofs.YtoloenkcfpfgcaaDoor
open Go.ChangeShapes Go.WideShapes Go.ChangeAt Go.RowKit

theorem rep_great (neg : Bool) (b t cb : Nat) (f : Nat → Nat) (w : World) (ht : 0 < t) (t1 : t ≤ 100000) (hf : Limbs w b t f) (hb : b < w.heap.size) (f9 : ∀ i, f i < 1000000000) :
    Rep w (.agg #[.int .i64 0, .bool neg, .slice (some ⟨b, 0, none⟩) t cb]) false neg t f where
  sm := fun w' _ => gIsSmall neg b t cb ht w'
  lm := fun w' h => (gLimbs neg b t cb ht (by omega) w').mono fun e w'' => by
    rintro ⟨rfl, h2⟩
    have z1 := h.size
    have z2 := h2.size
    exact ⟨b, cb, rfl, fun i hi => (h2.cell (p := ⟨b, i, none⟩) (by show b < _; omega)).trans ((h.cell (p := ⟨b, i, none⟩) hb).trans (hf i hi)), by omega, h2⟩
  ng := fun w' _ => gNeg neg b t cb ht w'
  lt := f9
  len := t1
/-- The limbs of a plain number. -/
def limb2 (v i : Nat) : Nat := if i = 0 then v % 1000000000 else if i = 1 then v / 1000000000 else 0
theorem limb2_lt (v : Nat) (h : v < 1000000000000000000) (i : Nat) : limb2 v i < 1000000000 := by unfold limb2; split <;> (try split) <;> omega
theorem rep_one (n : Int) (v : Nat) (hv : (v : Int) = n ∨ (v : Int) = -n) (v0 : 0 < v) (v1 : v < 1000000000) (w : World) :
    Rep w (.agg #[.int .i64 n, .bool false, .slice none 0 0]) true (decide (n < 0)) 1 (limb2 v) where
  sm := fun w' _ => (zIsSmall n w').mono fun e w'' => by rintro ⟨rfl, rfl⟩; exact ⟨rfl, (Below.refl _ _).alloc (Nat.le_refl _) _⟩
  lm := fun w' _ => (zLimbs1 n v hv (by omega) (by omega) w').mono fun e w'' => by
    rintro ⟨b, rfl, hc, hs, h2⟩
    refine ⟨b, _, rfl, fun i hi => ?_, hs, h2⟩
    obtain rfl : i = 0 := by omega
    rw [hc]
    have e : limb2 v 0 = v := by unfold limb2; simp; omega
    rw [e]
  ng := fun w' _ => zNeg n w'
  lt := limb2_lt v (by omega)
  len := by decide
theorem rep_two (n : Int) (v : Nat) (hv : (v : Int) = n ∨ (v : Int) = -n) (v0 : 1000000000 ≤ v) (v1 : v < 1000000000000000000) (w : World) :
    Rep w (.agg #[.int .i64 n, .bool false, .slice none 0 0]) true (decide (n < 0)) 2 (limb2 v) where
  sm := fun w' _ => (zIsSmall n w').mono fun e w'' => by rintro ⟨rfl, rfl⟩; exact ⟨rfl, (Below.refl _ _).alloc (Nat.le_refl _) _⟩
  lm := fun w' _ => (zLimbs2 n v hv (by omega) (by omega) w').mono fun e w'' => by
    rintro ⟨b, rfl, hc0, hc1, hs, h2⟩
    refine ⟨b, _, rfl, fun i hi => ?_, hs, h2⟩
    rcases (by omega : i = 0 ∨ i = 1) with rfl | rfl
    · rw [hc0]; rfl
    · rw [hc1]; rfl
  ng := fun w' _ => zNeg n w'
  lt := limb2_lt v v1
  len := by decide
theorem val_one (v : Nat) (h : v < 1000000000) : val (limb2 v) 1 = v := by simp [val, limb2]; omega
theorem val_two (v : Nat) : val (limb2 v) 2 = v := by simp [val, limb2]; omega
end Go.Proofs.YtoloenkcfpfgcaaDoor
namespace Go.Proofs.YtoloenkcfpfgcaaDoor
open Go.ChangeShapes Go.WideShapes Go.ChangeAt Go.RowKit
set_option maxRecDepth 100000 in
set_option maxHeartbeats 2000000 in
theorem rMul_over (na nb : Bool) (n m : Nat) (x y : Nat → Nat) (va vb X Y Q : Int) (w : World)
    (RA : Rep w (.agg #[.int .i64 va, .bool false, .slice none 0 0]) true na n x) (RB : Rep w (.agg #[.int .i64 vb, .bool false, .slice none 0 0]) true nb m y)
    (a0 : -1000000000000000000 < va) (a1 : va < 1000000000000000000) (b0 : -1000000000000000000 < vb) (b1 : vb < 1000000000000000000)
    (hX : (if va < 0 then -va else va) = X) (hY : (if vb < 0 then -vb else vb) = Y) (hX0 : 0 < X) (hQ : 999999999999999999 / X = Q) (hq : Q < Y) :
    Calls Tryd.prog 37 #[.agg #[.int .i64 va, .bool false, .slice none 0 0], .agg #[.int .i64 vb, .bool false, .slice none 0 0]] w fun r w' => ∃ o f, r = .returned (madeZ (na != nb) o (n + m + 1) (trim f (n + m + 1)) f) ∧ Own w' w.heap.size o (n + m + 1) f ∧ (∀ i, f i < 1000000000) ∧ val f (n + m + 1) = val x n * val y m ∧ Below w.heap.size w w' := by
  have hn := RA.len
  have hm := RB.len
  have hx := RA.lt
  have hy := RB.lt
  have k : ¬ X = 0 := by omega
  have kb : (X == 0) = false := by simp; omega
  have kq : ¬ Y ≤ Q := by omega
  have kd : decide (Y ≤ Q) = false := by simp; omega
  obtain ⟨i0, hi, hz0, hz1, hz2⟩ := info_parts info23
  go_enter Tryd.func37, Tryd.ntmps37
  go_wp2_with (first | (go_at_call 61; (with_reducible show Calls Tryd.prog 61 #[Value.agg #[Value.int IntKind.i64 va, Value.bool false, Value.slice none 0 0]] _ _); refine (RA.sm _ Args.start.below).mono ?_; rintro e w1 ⟨rfl, hb1⟩; have R1 := Args.start.next hb1; obtain ⟨⟨u0, u1, u2⟩, _⟩ := blk3 R1.A; obtain ⟨⟨v0, v1, v2⟩, _⟩ := blk3 R1.B) | (go_at_call 61; (with_reducible show Calls Tryd.prog 61 #[Value.agg #[Value.int IntKind.i64 vb, Value.bool false, Value.slice none 0 0]] _ _); refine (RB.sm _ R1.below).mono ?_; rintro e w1b ⟨rfl, hb1b⟩; have R1b := R1.next hb1b; obtain ⟨⟨y0, y1, y2⟩, _⟩ := blk3 R1b.A; obtain ⟨⟨q0, q1, q2⟩, _⟩ := blk3 R1b.B) | (go_at_call 62; refine (zAbs _ (by omega) (by omega) _).mono ?_; rintro e w' ⟨rfl, rfl⟩) | (go_at_call 63; (with_reducible show Calls Tryd.prog 63 #[Value.agg #[Value.int IntKind.i64 va, Value.bool false, Value.slice none 0 0]] _ _); refine (RA.lm _ R1b.below).mono ?_; rintro e w2 ⟨a, ca', rfl, ha, la, hb2⟩; have R2 := R1b.next hb2; obtain ⟨⟨x0, x1, x2⟩, _⟩ := blk3 R2.B) | (go_at_call 63; (with_reducible show Calls Tryd.prog 63 #[Value.agg #[Value.int IntKind.i64 vb, Value.bool false, Value.slice none 0 0]] _ _); refine (RB.lm _ R2.below).mono ?_; rintro e w3 ⟨b, cb', rfl, hb, lb, hb3⟩; have R3 := R2.next hb3) | (at_make; refine wpList_make_full _ rfl _ _ 22 rfl w3.heap.size 23 i0 (.int .u32 0) 1 Tryd.underlying22 hi hz0 hz1 _ _ _ _ (n + m + 1) rfl rfl (by first | rfl | omega) (by first | rfl | omega) (by rw [hz2]; omega) (by unfold maxLen; omega) (Nat.le_refl _) ?_; intro w4 hown hgrow))
  have O1 : Own w4 w3.heap.size w3.heap.size (n + m + 1) (fun _ => 0) := own_made hown (Nat.le_refl _) (hown.lt _ rfl).2
  have B4 : Below w3.heap.size w3 w4 := (Below.refl _ _).grown hgrow (Nat.le_refl _) (by simp)
  have R4 := R3.next B4
  clear hown hgrow hi hz0 hz1 hz2
  have zz3 := hb3.size
  have la3 : a < w3.heap.size := by omega
  have lb3 : b < w3.heap.size := lb
  have ha3 : Limbs w3 a n x := fun j hj => (hb3.cell (p := ⟨a, j, none⟩) la).trans (ha j hj)
  have hb3' : Limbs w3 b m y := hb
  clear ha hb
  go_loopw [53] (fun iv wr => ∃ i : Nat, i ≤ n ∧ iv = .int .i64 i ∧ ∃ f, Own wr w3.heap.size w3.heap.size (n + m + 1) f ∧ (∀ j, f j < 1000000000) ∧ (∀ j, i + m ≤ j → f j = 0) ∧ Hid (val f (i + m) = val x i * val y m) ∧ Below w3.heap.size w3 wr) (fun iv _ => n - (intOf iv).toNat)
  case atStart => exact ⟨0, by omega, rfl, fun _ => 0, O1, fun _ => by show 0 < 1000000000; decide, fun _ _ => rfl, by show val _ _ = _; rw [val_zeros _ 0 m (fun _ _ _ => rfl)]; simp [val], B4⟩
  case round =>
    obtain ⟨i, hi, rfl, f, OF, f9, fz, HV, BF⟩ := hrel
    by_cases hiN : i < n
    · have hiI : (i : Int) < (n : Int) := by omega
      go_wp2
      go_loopw [11, 58] (fun c kv wr => ∃ k C : Nat, k ≤ m ∧ kv = .int .i64 k ∧ c = .int .u64 C ∧ C < 1000000000 ∧ ∃ g, Own wr w3.heap.size w3.heap.size (n + m + 1) g ∧ (∀ j, g j < 1000000000) ∧ (∀ j, i + k ≤ j → g j = f j) ∧ Hid (val g (i + k) + C * 1000000000 ^ (i + k) = val f (i + k) + x i * val y k * 1000000000 ^ i) ∧ Below w3.heap.size w3 wr) (fun _ kv _ => m - (intOf kv).toNat)
      case atStart => exact ⟨0, 0, by omega, rfl, rfl, by decide, f, OF, f9, fun _ _ => rfl, by show val f (i + 0) + 0 * _ = _; simp [val], BF⟩
      case round =>
        obtain ⟨k, C, hk, rfl, rfl, hC, g, OG, g9, ge, HG, BG⟩ := hrel
        by_cases hkM : k < m
        · have hkI : (k : Int) < (m : Int) := by omega
          obtain ⟨p, hp⟩ : ∃ p, i + k = p := ⟨_, rfl⟩
          have hpI : (i : Int) + (k : Int) = (p : Int) := by omega
          have p0 : (0 : Int) ≤ (p : Int) := by omega
          have p1 : (p : Int) < (n : Int) + (m : Int) + 1 := by omega
          have p2 : (p : Int) < ((n + m + 1 : Nat) : Int) := by omega
          have f0 := OG.free p
          have g0 : wr.cell? ⟨w3.heap.size, p, none⟩ = some (.int .u32 (g p : Int)) := OG.cell p (by omega)
          have i0 : (0 : Int) ≤ (i : Int) := by omega
          have k0 : (0 : Int) ≤ (k : Int) := by omega
          have cx : wr.cell? ⟨a, i, none⟩ = some (.int .u32 (x i : Int)) := (BG.cell (p := ⟨a, i, none⟩) la3).trans (ha3 i hiN)
          have cy : wr.cell? ⟨b, k, none⟩ = some (.int .u32 (y k : Int)) := (BG.cell (p := ⟨b, k, none⟩) lb3).trans (hb3' k hkM)
          have xb := hx i
          have yb := hy k
          have gb := g9 p
          have MB := mul_bound (g p) (y k) C (x i) gb yb hC xb
          obtain ⟨P, hP⟩ : ∃ P, x i * y k = P := ⟨_, rfl⟩
          rw [hP] at MB
          have hPI : (x i : Int) * (y k : Int) = (P : Int) := by rw [← hP]; push_cast; rfl
          have HP : Hid (x i * y k = P) := hP
          have Hp : Hid (i + k = p) := hp
          have HMI : Hid (val (put g p ((g p + P + C) % 1000000000)) (i + (k + 1)) + (g p + P + C) / 1000000000 * 1000000000 ^ (i + (k + 1)) = val f (i + (k + 1)) + x i * val y (k + 1) * 1000000000 ^ i) := by
            have := mul_inner f g y i k (x i) C (g p + P + C) (by rw [hP, hp]) (ge _ (Nat.le_refl _)) HG.out
            rw [hp] at this
            exact this
          obtain ⟨mb1, mb2⟩ := MB
          clear hP hp
          go_wp2
          go_quiet (fail)
          go_wp2
          go_roundw
          case rel => exact ⟨k + 1, (g p + P + C) / 1000000000, by omega, by go_num, by first | rfl | go_num, mb2, put g p ((g p + P + C) % 1000000000), (OG.drewN _).set' p ((g p + P + C) % 1000000000) _ (by omega) (by omega) (fun j hj => rfl), fun j => by unfold put; split; omega; exact g9 j, fun j hj => by have := Hp.out; unfold put; rw [if_neg (by omega)]; exact ge j (by omega), HMI, (below_drewN BG _).setCell (Nat.le_refl _) _⟩
          case measure => simp [intOf]; omega
        · have hkk : k = m := by omega
          subst hkk
          obtain ⟨p, hp⟩ : ∃ p, i + k = p := ⟨_, rfl⟩
          have hpI : (i : Int) + (k : Int) = (p : Int) := by omega
          have p0 : (0 : Int) ≤ (p : Int) := by omega
          have p1 : (p : Int) < (n : Int) + (k : Int) + 1 := by omega
          have p2 : (p : Int) < ((n + k + 1 : Nat) : Int) := by omega
          have f0 := OG.free p
          have g0 : wr.cell? ⟨w3.heap.size, p, none⟩ = some (.int .u32 (g p : Int)) := OG.cell p (by omega)
          have HO : Hid (val (put g p C) (i + 1 + k) = val x (i + 1) * val y k) := by
            have := mul_outer f g x y i k C HV.out HG.out
            rw [hp] at this
            exact this
          have Hp : Hid (i + k = p) := hp
          clear hp
          go_wp2
          go_roundw
          case rel => exact ⟨i + 1, by omega, by go_num, put g p C, OG.set' p C _ (by first | rfl | omega) (by omega) (fun j hj => rfl), fun j => by unfold put; split; omega; exact g9 j, fun j hj => by have := Hp.out; unfold put; rw [if_neg (by omega)]; rw [ge j (by omega)]; exact fz j (by omega), HO, BG.setCell (Nat.le_refl _) _⟩
          case measure => simp [intOf]; omega
    · have hin : i = n := by omega
      subst hin
      have R5 := R3.next BF
      obtain ⟨⟨s0, s1, s2⟩, _⟩ := blk3 R5.A
      obtain ⟨⟨r0, r1, r2⟩, _⟩ := blk3 R5.B
      have HVV : Hid (val f (i + m + 1) = val x i * val y m) := by
        show val f (i + m + 1) = _
        rw [val_zeros f (i + m) 1 (fun j h1 _ => fz j h1)]; exact HV.out
      go_wp2
      go_region_with (first | (go_at_call 65; (with_reducible show Calls Tryd.prog 65 #[Value.agg #[Value.int IntKind.i64 va, Value.bool false, Value.slice none 0 0]] _ _); refine (RA.ng _ R5.drew.below).mono ?_; rintro e w6 ⟨rfl, hb6⟩; have R6 := R5.drew.next hb6; have O6 := OF.drew.next hb6; obtain ⟨⟨t0, t1, t2⟩, _⟩ := blk3 R6.B) | (go_at_call 65; (with_reducible show Calls Tryd.prog 65 #[Value.agg #[Value.int IntKind.i64 vb, Value.bool false, Value.slice none 0 0]] _ _); refine (RB.ng _ R6.below).mono ?_; rintro e w7 ⟨rfl, hb7⟩; have R7 := R6.next hb7; have O7 := O6.next hb7) | (go_at_call 64; refine (make_any _ (i + m + 1) w3.heap.size (i + m + 1) f _ (by omega) (Nat.le_refl _) O7.cell O7.hi f9).mono ?_; rintro e w8 ⟨he, hb8⟩; obtain ⟨V, N, S, L, CC, hM⟩ := madeZ_parts (na != nb) w3.heap.size (i + m + 1) (trim f (i + m + 1)) f; have HM : Hid (_ = _) := hM; (have he2 := he.trans (congrArg Ending.returned hM)); clear he hM; subst he2; have R8 := R7.next hb8; have O8 := O7.next hb8; obtain ⟨⟨z0, z1, z2⟩, z3, z4, z5⟩ := blk3 R8.Z))
      all_goals
        have big := R3.big
        have O9 := ((O8.other (w.heap.size + 1 + 1) 0 (.int .i64 V) (by omega)).other (w.heap.size + 1 + 1) 1 (.bool N) (by omega)).other (w.heap.size + 1 + 1) 2 (.slice S L CC) (by omega)
        have B9 := ((R8.below.setCell (p := ⟨w.heap.size + 1 + 1, 0, none⟩) (by simp; omega) (.int .i64 V)).setCell (p := ⟨w.heap.size + 1 + 1, 1, none⟩) (by simp; omega) (.bool N)).setCell (p := ⟨w.heap.size + 1 + 1, 2, none⟩) (by simp; omega) (.slice S L CC)
        go_wp2
        exact bodyPost_ret (v := .agg #[.int .i64 V, .bool N, .slice S L CC]) (by simp [results, Tryd.results37, go_sem, z0, z1, z2]) rfl ⟨w3.heap.size, f, by rw [HM.out], ⟨O9.cell, O9.free, by omega, O9.hi⟩, f9, HVV.out, B9⟩
end Go.Proofs.YtoloenkcfpfgcaaDoor
namespace Go.Proofs.YtoloenkcfpfgcaaDoor
open Go.ChangeShapes Go.WideShapes Go.ChangeAt Go.RowKit

/-- A size with a sign. -/
def sg (neg : Bool) (n : Nat) : Int := if neg then -(n : Int) else n
/-- The plain value of a small number. -/
def zS (N : Int) : Value := .agg #[.int .i64 N, .bool false, .slice none 0 0]
/-- The value v stands for N in the world w, with at most K limbs. -/
def Num (w : World) (K : Nat) (v : Value) (N : Int) : Prop :=
  (v = zS N ∧ -1000000000000000000 < N ∧ N < 1000000000000000000) ∨
  ∃ neg b t cb f, v = .agg #[.int .i64 0, .bool neg, .slice (some ⟨b, 0, none⟩) t cb] ∧ 3 ≤ t ∧ t ≤ K ∧ t ≤ cb ∧ t ≤ 100000 ∧ Limbs w b t f ∧ b < w.heap.size ∧ (∀ i, f i < 1000000000) ∧ f (t - 1) ≠ 0 ∧ N = sg neg (val f t)
theorem Num.next {w w' : World} {K : Nat} {v : Value} {N : Int} (h : Num w K v N) (hb : Below w.heap.size w w') : Num w' K v N := by
  rcases h with h | ⟨neg, b, t, cb, f, hv, t3, tK, tc, t1, hf, hl, f9, top, hN⟩
  · exact Or.inl h
  · exact Or.inr ⟨neg, b, t, cb, f, hv, t3, tK, tc, t1, fun i hi => (hb.cell (p := ⟨b, i, none⟩) hl).trans (hf i hi), by have := hb.size; omega, f9, top, hN⟩
theorem Num.mono {w : World} {K L : Nat} {v : Value} {N : Int} (h : Num w K v N) (hL : K ≤ L) : Num w L v N := by
  rcases h with h | ⟨neg, b, t, cb, f, hv, t3, tK, r⟩
  · exact Or.inl h
  · exact Or.inr ⟨neg, b, t, cb, f, hv, t3, by omega, r⟩
theorem num_small (w : World) (K : Nat) (N : Int) (h0 : -1000000000000000000 < N) (h1 : N < 1000000000000000000) : Num w K (zS N) N := Or.inl ⟨rfl, h0, h1⟩
theorem two_val (f : Nat → Nat) : ∀ t, t ≤ 2 → two f t = val f t
  | 0, _ => rfl
  | 1, _ => by simp [two, val]
  | 2, _ => by simp [two, val]; omega
theorem num_made {w : World} {B o n : Nat} {f : Nat → Nat} (O : Own w B o n f) (f9 : ∀ i, f i < 1000000000) (neg : Bool) (cb : Nat) (hc : n ≤ cb) (hn : n ≤ 100000) :
    Num w n (madeZ neg o cb (trim f n) f) (sg neg (val f n)) := by
  have tl := trim_le f n
  have tv := val_trim f n
  rw [← tv]
  unfold madeZ
  by_cases h : 2 < trim f n
  · rw [if_pos h]
    refine Or.inr ⟨neg, o, trim f n, cb, f, rfl, by omega, by omega, by omega, by omega, fun i hi => O.cell i (by omega), O.hi, f9, ?_, rfl⟩
    rcases trim_top f n with h0 | h0
    · omega
    · exact h0
  · rw [if_neg h]
    have e := two_val f (trim f n) (by omega)
    have lt := val_lt f (trim f n) (fun i _ => f9 i)
    have p2 : 1000000000 ^ trim f n ≤ 1000000000 ^ 2 := Nat.pow_le_pow_right (by decide) (by omega)
    have p2' : 1000000000 ^ trim f n ≤ 1000000000000000000 := by simpa using p2
    rw [e]
    unfold sg
    cases neg
    · exact Or.inl ⟨rfl, by simp; omega, by simp; omega⟩
    · exact Or.inl ⟨rfl, by simp; omega, by simp; omega⟩
theorem val_top (f : Nat → Nat) (t : Nat) (h3 : 3 ≤ t) (top : f (t - 1) ≠ 0) : 1000000000000000000 ≤ val f t := by
  obtain ⟨k, rfl⟩ : ∃ k, t = k + 1 := ⟨t - 1, by omega⟩
  simp only [Nat.add_sub_cancel] at top
  simp only [val]
  have p2 : 1000000000 ^ 2 ≤ 1000000000 ^ k := Nat.pow_le_pow_right (by decide) (by omega)
  have p3 : 1 * 1000000000 ^ k ≤ f k * 1000000000 ^ k := Nat.mul_le_mul_right _ (by omega)
  simp only [Nat.reducePow] at p2
  omega
/-- Of a number that is not 0: what the model's own questions answer of it. -/
theorem Num.rep {w : World} {K : Nat} {v : Value} {N : Int} (h : Num w K v N) (hK : 2 ≤ K) (h0 : N ≠ 0) :
    ∃ sm ng n x va ga pa ta ca, v = .agg #[.int .i64 va, .bool ga, .slice pa ta ca] ∧ Rep w v sm ng n x ∧ n ≤ K ∧ 0 < n ∧ N = sg ng (val x n) ∧
      (sm = true → v = zS N ∧ -1000000000000000000 < N ∧ N < 1000000000000000000) := by
  rcases h with ⟨rfl, l0, l1⟩ | ⟨neg, b, t, cb, f, rfl, t3, tK, tc, t1, hf, hl, f9, top, hN⟩
  · obtain ⟨a, ha⟩ : ∃ a : Nat, N.natAbs = a := ⟨_, rfl⟩
    have hv : (a : Int) = N ∨ (a : Int) = -N := by omega
    have hs : N = sg (decide (N < 0)) a := by
      unfold sg
      by_cases hn : N < 0
      · rw [decide_eq_true hn, if_pos rfl]; omega
      · rw [decide_eq_false hn, if_neg (by decide)]; omega
    by_cases h9 : a < 1000000000
    · refine ⟨true, decide (N < 0), 1, limb2 a, N, false, none, 0, 0, rfl, rep_one N a hv (by omega) h9 w, by omega, by omega, ?_, fun _ => ⟨rfl, l0, l1⟩⟩
      rw [val_one a h9]; exact hs
    · refine ⟨true, decide (N < 0), 2, limb2 a, N, false, none, 0, 0, rfl, rep_two N a hv (by omega) (by omega) w, by omega, by omega, ?_, fun _ => ⟨rfl, l0, l1⟩⟩
      rw [val_two]; exact hs
  · exact ⟨false, neg, t, f, 0, neg, _, t, cb, rfl, rep_great neg b t cb f w (by omega) t1 hf hl f9, tK, by omega, hN, fun h => by cases h⟩
theorem sg_mul (a b : Bool) (x y : Nat) : sg (a != b) (x * y) = sg a x * sg b y := by
  cases a <;> cases b <;> simp [sg, Int.neg_mul, Int.mul_neg]
set_option maxHeartbeats 1000000 in
theorem num_mul {w : World} {K L : Nat} {a b : Value} {A B : Int} (HA : Num w K a A) (HB : Num w L b B) (hK : 2 ≤ K) (hL : 2 ≤ L) (hKL : K + L + 1 ≤ 100000) (a0 : A ≠ 0) (b0 : B ≠ 0) :
    Calls Tryd.prog 37 #[a, b] w fun r w' => ∃ v, r = .returned v ∧ Num w' (K + L + 1) v (A * B) ∧ Below w.heap.size w w' := by
  obtain ⟨sa, na, n, x, va, ga, pa, ta, ca, rfl, RA, nK, n0, hA, SA⟩ := HA.rep hK a0
  obtain ⟨sb, nb, m, y, vb, gb, pb, tb, cb, rfl, RB, mL, m0, hB, SB⟩ := HB.rep hL b0
  have fin : ∀ {w' : World} {o : Nat} {f : Nat → Nat}, Own w' w.heap.size o (n + m + 1) f → (∀ i, f i < 1000000000) → val f (n + m + 1) = val x n * val y m → Num w' (K + L + 1) (madeZ (na != nb) o (n + m + 1) (trim f (n + m + 1)) f) (A * B) := by
    intro w' o f O f9 hv
    have h := (num_made O f9 (na != nb) (n + m + 1) (Nat.le_refl _) (by omega)).mono (show n + m + 1 ≤ K + L + 1 by omega)
    rw [hv, sg_mul, ← hA, ← hB] at h
    exact h
  cases sa
  · exact (rMul_great na sb nb n m x y va vb ga gb pa pb ta ca tb cb w RA RB).mono fun e w' ⟨o, f, h1, O, f9, hv, hb⟩ => ⟨_, h1, fin O f9 hv, hb⟩
  cases sb
  · exact (rMul_small na nb n m x y va vb ga gb pa pb ta ca tb cb w RA RB).mono fun e w' ⟨o, f, h1, O, f9, hv, hb⟩ => ⟨_, h1, fin O f9 hv, hb⟩
  · obtain ⟨eA, a1, a2⟩ := SA rfl
    obtain ⟨eB, b1, b2⟩ := SB rfl
    rw [eA, eB]
    rw [eA] at RA
    rw [eB] at RB
    by_cases hs : -1000000000000000000 < A * B ∧ A * B < 1000000000000000000
    · exact (zMul A B a1 a2 b1 b2 hs.1 hs.2 w).mono fun e w' ⟨h1, hb⟩ => ⟨_, h1, num_small w' _ _ hs.1 hs.2, hb⟩
    · have X0 : 0 < (if A < 0 then -A else A) := by split <;> omega
      have q : 999999999999999999 / (if A < 0 then -A else A) < (if B < 0 then -B else B) := by
        rw [Int.ediv_lt_iff_lt_mul X0]
        have e : (if B < 0 then -B else B) * (if A < 0 then -A else A) = A * B ∨ (if B < 0 then -B else B) * (if A < 0 then -A else A) = -(A * B) := by
          by_cases h1 : B < 0 <;> by_cases h2 : A < 0 <;> simp only [h1, h2, if_true, if_false, Int.neg_mul, Int.mul_neg, Int.neg_neg] <;> rw [Int.mul_comm B A] <;> simp
        have p : 0 ≤ (if B < 0 then -B else B) * (if A < 0 then -A else A) := Int.mul_nonneg (by split <;> omega) (by omega)
        rcases e with e | e <;> rw [e] at p ⊢ <;> omega
      exact (rMul_over na nb n m x y A B _ _ _ w RA RB a1 a2 b1 b2 rfl rfl X0 rfl q).mono fun e w' ⟨o, f, h1, O, f9, hv, hb⟩ => ⟨_, h1, fin O f9 hv, hb⟩
end Go.Proofs.YtoloenkcfpfgcaaDoor
namespace Go.Proofs.YtoloenkcfpfgcaaDoor
open Go.ChangeShapes Go.WideShapes Go.ChangeAt Go.RowKit
theorem Num.parts {w : World} {K : Nat} {v : Value} {N : Int} (h : Num w K v N) : ∃ V g p l c, v = .agg #[.int .i64 V, .bool g, .slice p l c] := by
  rcases h with ⟨rfl, _⟩ | ⟨neg, b, t, cb, f, rfl, _⟩
  · exact ⟨_, _, _, _, _, rfl⟩
  · exact ⟨_, _, _, _, _, rfl⟩
/-- A struct of three cells at block k. -/
def Three (w : World) (k : Nat) (x y z : Value) : Prop := w.heap[k]? = some (.cells #[x, y, z] 50 (0, 0))
theorem Three.next {w w' : World} {k : Nat} {x y z : Value} (h : Three w k x y z) (hb : Below w.heap.size w w') : Three w' k x y z := (hb.block _ (lt_of_block h)).trans h
theorem Three.lt {w : World} {k : Nat} {x y z : Value} (h : Three w k x y z) : k < w.heap.size := lt_of_block h
theorem Three.set {w : World} {k : Nat} {x y z : Value} (h : Three w k x y z) (x' y' z' : Value) : Three (((w.setCell ⟨k, 0, none⟩ x').setCell ⟨k, 1, none⟩ y').setCell ⟨k, 2, none⟩ z') k x' y' z' := set3 h
theorem Three.other {w : World} {k j : Nat} {x y z : Value} (h : Three w k x y z) (hk : k ≠ j) (x' y' z' : Value) : Three (((w.setCell ⟨j, 0, none⟩ x').setCell ⟨j, 1, none⟩ y').setCell ⟨j, 2, none⟩ z') k x y z := (set3_ne hk).trans h
theorem below_set3 {B : Nat} {w0 w : World} (h : Below B w0 w) {j : Nat} (hj : B ≤ j) (x' y' z' : Value) : Below B w0 (((w.setCell ⟨j, 0, none⟩ x').setCell ⟨j, 1, none⟩ y').setCell ⟨j, 2, none⟩ z') := ((h.setCell (p := ⟨j, 0, none⟩) hj _).setCell (p := ⟨j, 1, none⟩) hj _).setCell (p := ⟨j, 2, none⟩) hj _
/-- A struct that holds a number is written: the numbers that hold rows elsewhere stand. -/
theorem Num.set3 {w : World} {K : Nat} {v : Value} {N : Int} (h : Num w K v N) {j : Nat} {x z : Value} {g : Bool} (hj : Three w j x (.bool g) z) (x' y' z' : Value) : Num (((w.setCell ⟨j, 0, none⟩ x').setCell ⟨j, 1, none⟩ y').setCell ⟨j, 2, none⟩ z') K v N := by
  rcases h with h | ⟨neg, b, t, cb, f, hv, t3, tK, tc, t1, hf, hl, f9, top, hN⟩
  · exact Or.inl h
  · have hne : b ≠ j := by
      intro e
      subst e
      obtain ⟨⟨_, a1, _⟩, _⟩ := blk3 hj
      have h1 := hf 1 (by omega)
      rw [a1] at h1
      cases h1
    refine Or.inr ⟨neg, b, t, cb, f, hv, t3, tK, tc, t1, fun i hi => ?_, by simpa using hl, f9, top, hN⟩
    rw [World.cell?_of_block (w := w) (a := ⟨b, i, none⟩) (set3_ne hne)]
    exact hf i hi
theorem pow_ne (n : Nat) : (2 : Int) ^ n ≠ 0 := by
  have := (pow_bd n n (Nat.le_refl _)).1
  omega
theorem Num.drew {w : World} {K : Nat} {v : Value} {N : Int} (h : Num w K v N) : Num w.drew K v N := h
set_option maxRecDepth 100000 in
set_option maxHeartbeats 4000000 in
theorem num_power (n : Nat) (hn : n ≤ 1000) (w : World) :
    Calls Tryd.prog 39 #[.int .i64 n] w fun r w' => ∃ v, r = .returned v ∧ Num w' 100 v (2 ^ n) ∧ Below w.heap.size w w' := by
  have R00 : Three (w.alloc (.cells #[.int .i64 0, .bool false, .slice none 0 0] 50)) w.heap.size (.int .i64 0) (.bool false) (.slice none 0 0) := heap_alloc_new _ _
  have B00 : Below w.heap.size w (w.alloc (.cells #[.int .i64 0, .bool false, .slice none 0 0] 50)) := (Below.refl _ _).alloc (Nat.le_refl _) _
  go_enter Tryd.func39, Tryd.ntmps39
  go_wp2_with (go_at_call 38; refine (zSmall _ (by omega) (by omega) _).mono ?_; rintro e w1 ⟨rfl, hb⟩)
  have R1 := (R00.next hb).next (w' := w1.alloc (.cells #[.int .i64 1, .bool false, .slice none 0 0] 50)) ((Below.refl _ _).alloc (Nat.le_refl _) _)
  have X1 : Three (w1.alloc (.cells #[.int .i64 1, .bool false, .slice none 0 0] 50)) w1.heap.size (.int .i64 1) (.bool false) (.slice none 0 0) := heap_alloc_new _ _
  have B1 : Below w.heap.size w (w1.alloc (.cells #[.int .i64 1, .bool false, .slice none 0 0] 50)) := (B00.trans (hb.mono B00.size)).alloc (B00.trans (hb.mono B00.size)).size _
  have ne : w.heap.size ≠ w1.heap.size := by have := hb.size; simp at this; omega
  have lw : w.heap.size ≤ w1.heap.size := by have := hb.size; simp at this; omega
  clear R00 B00 hb
  go_loopw [0] (fun nv wr => ∃ (j : Nat) (V : Int) (g : Bool) (p : Option Addr) (l c : Nat), 50 * j ≤ n ∧ nv = .int .i64 ((n - 50 * j : Nat) : Int) ∧ Three wr w.heap.size (.int .i64 0) (.bool false) (.slice none 0 0) ∧ Three wr w1.heap.size (.int .i64 V) (.bool g) (.slice p l c) ∧ Num wr (2 + 3 * j) (.agg #[.int .i64 V, .bool g, .slice p l c]) (2 ^ (50 * j)) ∧ Below w.heap.size w wr) (fun nv _ => (intOf nv).toNat)
  case atStart => exact ⟨0, 1, false, none, 0, 0, by omega, rfl, R1, X1, num_small _ _ 1 (by decide) (by decide), B1⟩
  case round =>
    obtain ⟨j, V, g, p, l, c, hj, rfl, RR, XX, NN, BB⟩ := hrel
    obtain ⟨⟨u0, u1, u2⟩, f0, f1, f2⟩ := blk3 XX
    obtain ⟨⟨v0, v1, v2⟩, h0, h1, h2⟩ := blk3 RR
    by_cases hc : 50 ≤ n - 50 * j
    · have hc' : (50 : Int) ≤ ((n - 50 * j : Nat) : Int) := by omega
      obtain ⟨q, hq⟩ : ∃ q, n - 50 * j = q := ⟨_, rfl⟩
      rw [hq] at hc hc' ⊢
      have hq2 : (q : Int) ≤ 1000 := by omega
      have HQ : Hid (n - 50 * j = q) := hq
      clear hq
      go_wp2
      have e50 : (2 : Int) ^ (50 * (j + 1)) = 2 ^ (50 * j) * 1125899906842624 := by rw [Nat.mul_succ, Int.pow_add]; rfl
      have H50 : Hid ((2 : Int) ^ (50 * (j + 1)) = 2 ^ (50 * j) * 1125899906842624) := e50
      clear e50
      go_region_with (first | (go_at_call 38; refine (zSmall _ (by omega) (by omega) _).mono ?_; rintro e w2 ⟨rfl, hb2⟩; (have hb2' : Below wr.heap.size wr w2 := (Below.refl wr.heap.size wr).drew.trans hb2); have X2 := XX.next hb2'; have RR2 := RR.next hb2'; have N2 := NN.next hb2'; obtain ⟨⟨x0, x1, x2⟩, y0, y1, y2⟩ := blk3 X2) | (go_at_call 37; refine (num_mul (w := w2) N2 (num_small w2 2 1125899906842624 (by decide) (by decide)) (by omega) (by omega) (by omega) (pow_ne _) (by decide)).mono ?_; rintro e w3 ⟨v, rfl, N3, hb3⟩; obtain ⟨V3, g3, p3, l3, c3, rfl⟩ := N3.parts; have X3 := X2.next hb3; have RR3 := RR2.next hb3; obtain ⟨⟨s0, s1, s2⟩, t0, t1, t2⟩ := blk3 X3))
      all_goals
        go_wp2
        go_roundw
        case rel => exact ⟨j + 1, V3, g3, p3, l3, c3, by have := HQ.out; omega, by have := HQ.out; rw [show n - 50 * (j + 1) = q - 50 by omega]; go_num, RR3.other ne _ _ _, X3.set _ _ _, by have h := (N3.set3 X3 (.int .i64 V3) (.bool g3) (.slice p3 l3 c3)).mono (show 2 + 3 * j + 2 + 1 ≤ 2 + 3 * (j + 1) by omega); rw [← H50.out] at h; exact h, below_set3 ((BB.trans (hb2'.mono BB.size)).trans (hb3.mono (Nat.le_trans BB.size hb2'.size))) (by omega) _ _ _⟩
        case measure => simp [intOf]; omega
    · obtain ⟨q, hq⟩ : ∃ q, n - 50 * j = q := ⟨_, rfl⟩
      rw [hq] at hc ⊢
      have hc' : ¬ (50 : Int) ≤ (q : Int) := by omega
      have q0 : (0 : Int) ≤ (q : Int) := by omega
      obtain ⟨P, hP⟩ : ∃ P : Int, (2 : Int) ^ q = P := ⟨_, rfl⟩
      have pb := pow_bd q 49 (by omega)
      rw [hP] at pb
      obtain ⟨p0, p1⟩ := pb
      simp only [Int.reducePow] at p1
      have hpow : IntKind.i64.wrap (2 ^ min (IntKind.u64.wrap (q : Int)).toNat 64) = P := by
        rw [IntKind.wrap_u64, Int.emod_eq_of_lt q0 (by omega), Int.toNat_natCast, Nat.min_eq_left (by omega), hP, wr64 P (by omega) (by omega)]
      have hpow2 : wrap64 (2 ^ q) = P := by rw [hP]; simp only [wrap64]; omega
      have en : (2 : Int) ^ n = 2 ^ (50 * j) * P := by rw [← hP, ← Int.pow_add]; congr 1; omega
      have HEN : Hid ((2 : Int) ^ n = 2 ^ (50 * j) * P) := en
      clear en hP hq hc
      have hP0 : P ≠ 0 := by omega
      go_wp2
      go_region_with (first | (go_at_call 38; (try rw [hpow]); (try rw [hpow2]); refine (zSmall P (by omega) (by omega) _).mono ?_; rintro e w2 ⟨rfl, hb2⟩; (have hb2' : Below wr.heap.size wr w2 := (Below.refl wr.heap.size wr).drew.trans hb2); have X2 := XX.next hb2'; have RR2 := RR.next hb2'; have N2 := NN.next hb2'; obtain ⟨⟨x0, x1, x2⟩, y0, y1, y2⟩ := blk3 X2) | (go_at_call 37; refine (num_mul (w := w2) N2 (num_small w2 2 P (by omega) (by omega)) (by omega) (by omega) (by omega) (pow_ne _) hP0).mono ?_; rintro e w3 ⟨v, rfl, N3, hb3⟩; obtain ⟨V3, g3, p3, l3, c3, rfl⟩ := N3.parts; have RR3 := RR2.next hb3; obtain ⟨⟨s0, s1, s2⟩, t0, t1, t2⟩ := blk3 RR3))
      all_goals
        go_wp2
        exact bodyPost_ret (v := .agg #[.int .i64 V3, .bool g3, .slice p3 l3 c3]) (by simp [results, Tryd.results39, go_sem, s0, s1, s2]) rfl ⟨_, rfl, by have h := (N3.set3 RR3 (.int .i64 V3) (.bool g3) (.slice p3 l3 c3)).mono (show 2 + 3 * j + 2 + 1 ≤ 100 by omega); rw [← HEN.out] at h; exact h, below_set3 ((BB.trans (hb2'.mono BB.size)).trans (hb3.mono (Nat.le_trans BB.size hb2'.size))) (Nat.le_refl _) _ _ _⟩
end Go.Proofs.YtoloenkcfpfgcaaDoor
