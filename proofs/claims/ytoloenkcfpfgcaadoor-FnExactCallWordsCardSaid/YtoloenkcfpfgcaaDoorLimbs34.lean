/- Contract of the model's l1Div over any numbers above 0, by what they stand for; conditions: at most 9,000 limbs each. Plain mathematics of the model's rounding (a size over the powers of 2), and small contracts over numbers by what they stand for: l1Scaled with either sign, l1Zero; conditions: powers up to 1000, at most 200 limbs. What the model's rounding holds in its own memory while it works: the form, the numerator, the denominator, by what they stand for. -/
import Derived.Test.YtoloenkcfpfgcaaDoorLimbs31
import Derived.Test.YtoloenkcfpfgcaaDoorLimbs27
import Derived.Test.YtoloenkcfpfgcaaDoorLimbs26
import Derived.Test.YtoloenkcfpfgcaaDoorRnd16
import Derived.Test.YtoloenkcfpfgcaaDoorWhole
namespace Go.Proofs.YtoloenkcfpfgcaaDoor
open Go.ChangeShapes Go.WideShapes Go.ChangeAt Go.RowKit
theorem num_div {w : World} {K L : Nat} {a b : Value} {A B : Int} (HA : Num w K a A) (HB : Num w L b B) (hK : 2 ≤ K) (hL : 2 ≤ L) (hK2 : K ≤ 9000) (hL2 : L ≤ 9000) (a0 : 0 < A) (b0 : 0 < B) :
    Calls Tryd.prog 66 #[a, b] w fun r w' => ∃ vq vr, r = .returned (.tuple #[vq, vr]) ∧ Num w' (K + 2) vq (A / B) ∧ Num w' (L + 2) vr (A % B) ∧ Below w.heap.size w w' := by
  obtain ⟨sa, na, n, x, va, ga, pa, ta, ca, rfl, RA, nK, n0, tx, eA, SA⟩ := HA.rep2 hK (by omega)
  obtain ⟨sb, nb, m, y, vb, gb, pb, tb, cb, rfl, RB, mL, m0, ty, eB, SB⟩ := HB.rep2 hL (by omega)
  obtain ⟨m1, rfl⟩ : ∃ m1, m = m1 + 1 := ⟨m - 1, by omega⟩
  simp only [Nat.add_sub_cancel] at ty
  have hna : na = false := by
    cases na
    · rfl
    · rw [eA] at a0; simp [sg] at a0; omega
  have hnb : nb = false := by
    cases nb
    · rfl
    · rw [eB] at b0; simp [sg] at b0; omega
  subst hna hnb
  rw [sg_false] at eA eB
  have fin : ∀ {w' : World} {vq vr : Value}, Num w' (n + 2) vq ((val x n / val y (m1 + 1) : Nat) : Int) → Num w' (m1 + 3) vr ((val x n % val y (m1 + 1) : Nat) : Int) → Num w' (K + 2) vq (A / B) ∧ Num w' (L + 2) vr (A % B) := by
    intro w' vq vr h1 h2
    rw [Int.natCast_ediv, ← eA, ← eB] at h1
    rw [Int.natCast_emod, ← eA, ← eB] at h2
    exact ⟨h1.mono (by omega), h2.mono (by omega)⟩
  cases sa
  · exact (rDiv_great sb n m1 x y va vb ga gb pa pb ta ca tb cb w RA RB (by omega) (by omega) ty).mono fun e w' ⟨vq, vr, h1, h2, h3, h4⟩ => ⟨vq, vr, h1, (fin h2 h3).1, (fin h2 h3).2, h4⟩
  cases sb
  · exact (rDiv_small n m1 x y va vb ga gb pa pb ta ca tb cb w RA RB (by omega) (by omega) ty).mono fun e w' ⟨vq, vr, h1, h2, h3, h4⟩ => ⟨vq, vr, h1, (fin h2 h3).1, (fin h2 h3).2, h4⟩
  · obtain ⟨eqA, a1, a2⟩ := SA rfl
    obtain ⟨eqB, b1, b2⟩ := SB rfl
    rw [eqA, eqB]
    have q0 : 0 ≤ A / B := Int.ediv_nonneg (by omega) (by omega)
    have q1 : A / B ≤ A := Int.ediv_le_self _ (by omega)
    have r0 := Int.emod_nonneg A (Int.ne_of_gt b0)
    have r1 := Int.emod_lt_of_pos A b0
    exact (zDiv A B (by omega) a2 b0 b2 w).mono fun e w' ⟨h1, h2⟩ => ⟨_, _, h1, num_small w' _ _ (by omega) (by omega), num_small w' _ _ (by omega) (by omega), h2⟩
end Go.Proofs.YtoloenkcfpfgcaaDoor
namespace Go.Proofs.YtoloenkcfpfgcaaDoor
open Go.ChangeShapes Go.WideShapes Go.ChangeAt Go.RowKit
/-- Numerator and denominator of a size over 2 to the i. -/
def sa (N : Nat) (i : Int) : Nat := N * 2 ^ (-i).toNat
def sb (D : Nat) (i : Int) : Nat := D * 2 ^ i.toNat
theorem p2 (n : Nat) : 0 < 2 ^ n := Nat.two_pow_pos n
theorem sa_pos (N : Nat) (i : Int) (h : 0 < N) : 0 < sa N i := Nat.mul_pos h (p2 _)
theorem sb_pos (D : Nat) (i : Int) (h : 0 < D) : 0 < sb D i := Nat.mul_pos h (p2 _)
theorem sc_mono (N D T : Nat) (i j : Int) (h : i ≤ j) (hj : T * sb D j ≤ sa N j) : T * sb D i ≤ sa N i := by
  unfold sa sb at *
  obtain ⟨d, hd⟩ : ∃ d : Nat, (-i).toNat + j.toNat = (-j).toNat + i.toNat + d := ⟨(j - i).toNat, by omega⟩
  have e1 : T * (D * 2 ^ j.toNat) * 2 ^ (i.toNat + d) ≤ N * 2 ^ (-j).toNat * 2 ^ (i.toNat + d) := Nat.mul_le_mul_right _ hj
  have e2 : N * 2 ^ (-j).toNat * 2 ^ (i.toNat + d) = N * 2 ^ (-i).toNat * 2 ^ j.toNat := by
    rw [Nat.mul_assoc, Nat.mul_assoc, ← Nat.pow_add, ← Nat.pow_add, hd, Nat.add_assoc]
  have e3 : T * (D * 2 ^ j.toNat) * 2 ^ (i.toNat + d) = T * (D * 2 ^ (i.toNat + d)) * 2 ^ j.toNat := by
    rw [← Nat.mul_assoc, ← Nat.mul_assoc, Nat.mul_right_comm]
  rw [e2, e3] at e1
  have e4 := Nat.le_of_mul_le_mul_right e1 (p2 _)
  have e5 : T * (D * 2 ^ i.toNat) ≤ T * (D * 2 ^ (i.toNat + d)) := Nat.mul_le_mul_left _ (Nat.mul_le_mul_left _ (Nat.pow_le_pow_right (by decide) (by omega)))
  omega
theorem sc_start (N D β δ bits : Nat) (es : Int) (h1 : 2 ^ β ≤ N) (h2 : D < 2 ^ (δ + 3)) (h : sa N es < 2 ^ bits * sb D es) : (β : Int) - (δ : Int) - (bits : Int) - 2 ≤ es := by
  unfold sa sb at h
  have a : 2 ^ (β + (-es).toNat) ≤ N * 2 ^ (-es).toNat := by rw [Nat.pow_add]; exact Nat.mul_le_mul_right _ h1
  have b : 2 ^ bits * (D * 2 ^ es.toNat) ≤ 2 ^ (bits + (δ + 3) + es.toNat) := by
    rw [Nat.pow_add, Nat.pow_add, Nat.mul_assoc]
    exact Nat.mul_le_mul_left _ (Nat.mul_le_mul_right _ (by omega))
  have c : 2 ^ (β + (-es).toNat) < 2 ^ (bits + (δ + 3) + es.toNat) := by omega
  have d := (Nat.pow_lt_pow_iff_right (a := 2) (by decide)).1 c
  omega
theorem Num.tight {w : World} {K k : Nat} {v : Value} {N : Int} (h : Num w K v N) (hN : N.natAbs < 1000000000 ^ k) : Num w k v N := by
  rcases h with h | ⟨neg, b, t, cb, f, hv, t3, tK, tc, t1, hf, hl, f9, top, e⟩
  · exact Or.inl h
  · refine Or.inr ⟨neg, b, t, cb, f, hv, t3, ?_, tc, t1, hf, hl, f9, top, e⟩
    have hv' : val f t = N.natAbs := by rw [e]; cases neg <;> simp [sg]
    have h1 := top_ge f t (by omega) top
    rw [hv'] at h1
    have h2 : 1000000000 ^ (t - 1) < 1000000000 ^ k := by omega
    have h3 := (Nat.pow_lt_pow_iff_right (a := 1000000000) (by decide)).1 h2
    omega
theorem Num.small {w : World} {K : Nat} {v : Value} {N : Int} (h : Num w K v N) (h0 : -1000000000000000000 < N) (h1 : N < 1000000000000000000) : v = zS N := by
  rcases h with h | ⟨neg, b, t, cb, f, hv, t3, tK, tc, t1, hf, hl, f9, top, e⟩
  · exact h.1
  · exfalso
    have h2 := val_top f t t3 top
    rw [e] at h0 h1
    cases neg <;> simp [sg] at h0 h1 <;> omega
theorem num_zero {w : World} {K : Nat} {v : Value} {N : Int} (h : Num w K v N) : Calls Tryd.prog 34 #[v] w fun e w' => e = .returned (.bool (decide (N = 0))) ∧ Below w.heap.size w w' := by
  rcases h with ⟨rfl, _, _⟩ | ⟨neg, b, t, cb, f, rfl, t3, tK, tc, t1, hf, hl, f9, top, e⟩
  · exact zZero N w
  · have h2 := val_top f t t3 top
    have hne : ¬ N = 0 := by rw [e]; cases neg <;> simp [sg] <;> omega
    rw [decide_eq_false hne]
    exact gZero neg b t cb (by omega) w
/-- l1Limbs of a number that is not 0: a row of its size. -/
theorem num_limbs {w : World} {K : Nat} {v : Value} {N : Int} (h : Num w K v N) (h0 : N ≠ 0) (hK : 2 ≤ K) :
    Calls Tryd.prog 63 #[v] w fun e w' => ∃ b n cb x, e = .returned (.slice (some ⟨b, 0, none⟩) n cb) ∧ n ≤ cb ∧ n ≤ K ∧ n ≤ 100000 ∧ Raw w' b n x ∧ val x n = N.natAbs ∧ Below w.heap.size w w' := by
  rcases h with ⟨rfl, l0, l1⟩ | ⟨neg, b, t, cb, f, rfl, t3, tK, tc, t1, hf, hl, f9, top, hN⟩
  · obtain ⟨a, ha⟩ : ∃ a : Nat, N.natAbs = a := ⟨_, rfl⟩
    have hv : (a : Int) = N ∨ (a : Int) = -N := by omega
    rw [ha]
    by_cases h9 : a < 1000000000
    · refine (zLimbs1 N a hv (by omega) (by omega) w).mono fun e w' => ?_
      rintro ⟨b, rfl, hc, hs, h2⟩
      refine ⟨b, 1, 1, limb2 a, rfl, by omega, by omega, by omega, ⟨fun i hi => ?_, hs, limb2_lt a (by omega)⟩, val_one a h9, h2⟩
      obtain rfl : i = 0 := by omega
      rw [hc]
      have e : limb2 a 0 = a := by unfold limb2; simp; omega
      rw [e]
    · refine (zLimbs2 N a hv (by omega) (by omega) w).mono fun e w' => ?_
      rintro ⟨b, rfl, hc0, hc1, hs, h2⟩
      refine ⟨b, 2, 2, limb2 a, rfl, by omega, by omega, by omega, ⟨fun i hi => ?_, hs, limb2_lt a (by omega)⟩, val_two a, h2⟩
      rcases (by omega : i = 0 ∨ i = 1) with rfl | rfl
      · rw [hc0]; rfl
      · rw [hc1]; rfl
  · refine (gLimbs neg b t cb (by omega) (by omega) w).mono fun e w' => ?_
    rintro ⟨rfl, h2⟩
    have z := h2.size
    exact ⟨b, t, cb, f, rfl, tc, tK, t1, ⟨fun i hi => (h2.cell (p := ⟨b, i, none⟩) hl).trans (hf i hi), by omega, f9⟩, by rw [hN]; cases neg <;> simp [sg], h2⟩
theorem cast_pow (N k : Nat) : ((N * 2 ^ k : Nat) : Int) = (N : Int) * 2 ^ k := by push_cast; rfl
/-- l1Scaled, whatever the sign of the power. -/
theorem num_scaled {w : World} {a b : Value} {N D : Nat} (HA : Num w 60 a (N : Int)) (HB : Num w 60 b (D : Int)) (i : Int) (i0 : -1000 ≤ i) (i1 : i ≤ 1000) :
    Calls Tryd.prog 82 #[a, b, .int .i64 i] w fun r w' => ∃ va vb, r = .returned (.tuple #[va, vb]) ∧ Num w' 200 va (sa N i : Nat) ∧ Num w' 200 vb (sb D i : Nat) ∧ Below w.heap.size w w' := by
  by_cases h : 0 ≤ i
  · obtain ⟨e, rfl⟩ := Int.eq_ofNat_of_zero_le h
    refine (num_scaled_up HA HB (by decide) (by decide) e (by omega)).mono fun r w' ⟨v, h1, h2, h3⟩ => ⟨a, v, h1, ?_, ?_, h3⟩
    · have e1 : sa N ((e : Nat) : Int) = N := by unfold sa; rw [show (-((e : Nat) : Int)).toNat = 0 by omega]; simp
      rw [e1]; exact (HA.next h3).mono (by decide)
    · have e1 : ((sb D ((e : Nat) : Int) : Nat) : Int) = (D : Int) * 2 ^ e := by unfold sb; rw [show ((e : Nat) : Int).toNat = e by omega]; exact cast_pow D e
      rw [e1]; exact h2.mono (by decide)
  · obtain ⟨e, he⟩ : ∃ e : Nat, i = -(e : Int) := ⟨(-i).toNat, by omega⟩
    refine (num_scaled_dn HA HB (by decide) (by decide) e (by omega) i he (by omega)).mono fun r w' ⟨v, h1, h2, h3⟩ => ⟨v, b, h1, ?_, ?_, h3⟩
    · have e1 : ((sa N i : Nat) : Int) = (N : Int) * 2 ^ e := by unfold sa; rw [show (-i).toNat = e by omega]; exact cast_pow N e
      rw [e1]; exact h2.mono (by decide)
    · have e1 : sb D i = D := by unfold sb; rw [show i.toNat = 0 by omega]; simp
      rw [e1]; exact (HB.next h3).mono (by decide)
end Go.Proofs.YtoloenkcfpfgcaaDoor
namespace Go.Proofs.YtoloenkcfpfgcaaDoor
open Go.ChangeShapes Go.WideShapes Go.ChangeAt Go.RowKit
/-- How what is left over lies to half of the step. -/
def leftI (r b : Nat) : Int := if r = 0 then 0 else if 2 * r < b then 1 else if 2 * r = b then 2 else 3
structure RC (fb fl fm : Int) (w v : World) (a N D : Nat) (V1 : Int) (g1 : Bool) (p1 : Option Addr) (l1 c1 : Nat) (V2 : Int) (g2 : Bool) (p2 : Option Addr) (l2 c2 : Nat) : Prop where
  F : v.heap[w.heap.size + 1]? = some (.cells #[.int .i64 fb, .int .i64 fl, .int .i64 fm] 58 (0, 0))
  Nm : Three v a (.int .i64 V1) (.bool g1) (.slice p1 l1 c1)
  Dn : Three v (a + 1) (.int .i64 V2) (.bool g2) (.slice p2 l2 c2)
  nN : Num v 60 (.agg #[.int .i64 V1, .bool g1, .slice p1 l1 c1]) (N : Int)
  nD : Num v 60 (.agg #[.int .i64 V2, .bool g2, .slice p2 l2 c2]) (D : Int)
  B : Below w.heap.size w v
  lo : w.heap.size + 1 < a
section
variable {fb fl fm : Int} {w v v' : World} {a N D N' D' : Nat} {V1 : Int} {g1 : Bool} {p1 : Option Addr} {l1 c1 : Nat} {V2 : Int} {g2 : Bool} {p2 : Option Addr} {l2 c2 : Nat} {V3 : Int} {g3 : Bool} {p3 : Option Addr} {l3 c3 : Nat}
theorem RC.sz (h : RC fb fl fm w v a N D V1 g1 p1 l1 c1 V2 g2 p2 l2 c2) : a + 1 < v.heap.size := lt_of_block h.Dn
theorem RC.next (h : RC fb fl fm w v a N D V1 g1 p1 l1 c1 V2 g2 p2 l2 c2) (b : Below v.heap.size v v') : RC fb fl fm w v' a N D V1 g1 p1 l1 c1 V2 g2 p2 l2 c2 := by
  have s := h.sz
  have l := h.lo
  exact ⟨(b.block _ (by omega)).trans h.F, h.Nm.next b, h.Dn.next b, h.nN.next b, h.nD.next b, h.B.trans (b.mono (by omega)), l⟩
theorem RC.drew (h : RC fb fl fm w v a N D V1 g1 p1 l1 c1 V2 g2 p2 l2 c2) : RC fb fl fm w v.drew a N D V1 g1 p1 l1 c1 V2 g2 p2 l2 c2 := ⟨h.F, h.Nm, h.Dn, h.nN.drew, h.nD.drew, h.B.drew, h.lo⟩
theorem RC.alloc (h : RC fb fl fm w v a N D V1 g1 p1 l1 c1 V2 g2 p2 l2 c2) (o : Obj) : RC fb fl fm w (v.alloc o) a N D V1 g1 p1 l1 c1 V2 g2 p2 l2 c2 := h.next (al _ _)
theorem RC.setN (h : RC fb fl fm w v a N D V1 g1 p1 l1 c1 V2 g2 p2 l2 c2) (hn : Num v 60 (.agg #[.int .i64 V3, .bool g3, .slice p3 l3 c3]) (N' : Int)) :
    RC fb fl fm w (((v.setCell ⟨a, 0, none⟩ (.int .i64 V3)).setCell ⟨a, 1, none⟩ (.bool g3)).setCell ⟨a, 2, none⟩ (.slice p3 l3 c3)) a N' D V3 g3 p3 l3 c3 V2 g2 p2 l2 c2 := by
  have l := h.lo
  exact ⟨(set3_ne (by omega)).trans h.F, h.Nm.set _ _ _, h.Dn.other (by omega) _ _ _, hn.set3 h.Nm _ _ _, h.nD.set3 h.Nm _ _ _, below_set3 h.B (by omega) _ _ _, l⟩
theorem RC.setD (h : RC fb fl fm w v a N D V1 g1 p1 l1 c1 V2 g2 p2 l2 c2) (hn : Num v 60 (.agg #[.int .i64 V3, .bool g3, .slice p3 l3 c3]) (D' : Int)) :
    RC fb fl fm w (((v.setCell ⟨a + 1, 0, none⟩ (.int .i64 V3)).setCell ⟨a + 1, 1, none⟩ (.bool g3)).setCell ⟨a + 1, 2, none⟩ (.slice p3 l3 c3)) a N D' V1 g1 p1 l1 c1 V3 g3 p3 l3 c3 := by
  have l := h.lo
  exact ⟨(set3_ne (by omega)).trans h.F, h.Nm.other (by omega) _ _ _, h.Dn.set _ _ _, h.nN.set3 h.Dn _ _ _, hn.set3 h.Dn _ _ _, below_set3 h.B (by omega) _ _ _, l⟩
end
end Go.Proofs.YtoloenkcfpfgcaaDoor
