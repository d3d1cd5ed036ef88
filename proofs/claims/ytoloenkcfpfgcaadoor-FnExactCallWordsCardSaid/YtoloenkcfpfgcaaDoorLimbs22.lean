/- Contract of the model's l1Add over any two numbers, by what they stand for; conditions: at most 100,000 limbs together. -/
import Derived.Test.YtoloenkcfpfgcaaDoorLimbs19
import Derived.Test.YtoloenkcfpfgcaaDoorLimbs20
import Derived.Test.YtoloenkcfpfgcaaDoorLimbs21
namespace Go.Proofs.YtoloenkcfpfgcaaDoor
open Go.ChangeShapes Go.WideShapes Go.ChangeAt Go.RowKit
set_option maxHeartbeats 1000000 in
theorem zAdd_any (n m : Int) (n0 : -1000000000000000000 < n) (n1 : n < 1000000000000000000) (m0 : -1000000000000000000 < m) (m1 : m < 1000000000000000000) (w : World) :
    Calls Tryd.prog 41 #[zS n, zS m] w fun r w' => ∃ v, r = .returned v ∧ Num w' 3 v (n + m) ∧ Below w.heap.size w w' := by
  unfold zS
  go_enter Tryd.func41, Tryd.ntmps41
  go_wp2_with (first | (go_at_call 61; (with_reducible show Calls Tryd.prog 61 #[Value.agg #[Value.int IntKind.i64 n, _, _]] (World.alloc _ _) _); refine ((zIsSmall n _).mono fun e w'' => by rintro ⟨rfl, rfl⟩; exact ⟨rfl, (Below.refl _ _).alloc (Nat.le_refl _) _⟩ : Calls _ _ _ _ fun e w'' => e = .returned (.bool true) ∧ Below _ _ w'').mono ?_; rintro e w1 ⟨rfl, hb1⟩; have R1 := Args.start.next hb1; obtain ⟨⟨u0, u1, u2⟩, _⟩ := blk3 R1.A; obtain ⟨⟨v0, v1, v2⟩, _⟩ := blk3 R1.B) | (go_at_call 61; refine ((zIsSmall m _).mono fun e w'' => by rintro ⟨rfl, rfl⟩; exact ⟨rfl, (Below.refl _ _).alloc (Nat.le_refl _) _⟩ : Calls _ _ _ _ fun e w'' => e = .returned (.bool true) ∧ Below _ _ w'').mono ?_; rintro e w2 ⟨rfl, hb2⟩; have R2 := R1.next hb2; obtain ⟨⟨x0, x1, x2⟩, _⟩ := blk3 R2.A; obtain ⟨⟨y0, y1, y2⟩, _⟩ := blk3 R2.B) | (go_at_call 38; refine (num_ofInt (n + m) (by omega) (by omega) _).mono ?_; rintro e w3 ⟨v, rfl, N3, hb3⟩; obtain ⟨V, g, p, l, c, rfl⟩ := N3.parts; have R3 := R2.next hb3; obtain ⟨⟨z0, z1, z2⟩, z3, z4, z5⟩ := blk3 R3.Z))
  exact bodyPost_ret (v := .agg #[.int .i64 V, .bool g, .slice p l c]) (by simp [results, Tryd.results41, go_sem, z0, z1, z2]) rfl ⟨_, rfl, N3.set3 (j := w.heap.size + 2) R3.Z _ _ _, below_set3 R3.below (by omega) _ _ _⟩
theorem sg_false (n : Nat) : sg false n = n := rfl
theorem sg_true (n : Nat) : sg true n = -(n : Int) := rfl
theorem num_add {w : World} {K L : Nat} {a b : Value} {A B : Int} (HA : Num w K a A) (HB : Num w L b B) (hK : 2 ≤ K) (hL : 2 ≤ L) (hKL : K + L + 1 ≤ 100000) :
    Calls Tryd.prog 41 #[a, b] w fun r w' => ∃ v, r = .returned v ∧ Num w' (K + L + 1) v (A + B) ∧ Below w.heap.size w w' := by
  have fin : ∀ {w' : World} {o M : Nat} {f : Nat → Nat} (s : Bool) (X : Int), M ≤ K + L + 1 → Own w' w.heap.size o M f → (∀ i, f i < 1000000000) → sg s (val f M) = X → Num w' (K + L + 1) (madeZ s o M (trim f M) f) X := by
    intro w' o M f s X hM O f9 hX
    have h := (num_made O f9 s M (Nat.le_refl _) (by omega)).mono hM
    rw [hX] at h
    exact h
  by_cases hA : A = 0
  · subst hA
    rw [HA.zero, Int.zero_add]
    rcases HB with ⟨rfl, b0, b1⟩ | ⟨neg, b', t, cb, f, rfl, t3, tK, tc, t1, hf, hl, f9, top, hN⟩
    · have := zAdd_any 0 B (by decide) (by decide) b0 b1 w
      rw [Int.zero_add] at this
      exact this.mono fun e w' ⟨v, h1, h2, hb⟩ => ⟨v, h1, h2.mono (by omega), hb⟩
    · cases neg
      · exact (rAdd_zeroLp t f 0 false _ t cb w (rep_great false b' t cb f w (by omega) t1 hf hl f9) (by omega)).mono fun e w' ⟨M, o, g, hM, h1, O, g9, hv, hb⟩ => ⟨_, h1, fin false B (by omega) O g9 (by rw [hv, hN]), hb⟩
      · exact (rAdd_zeroLn t f 0 true _ t cb w (rep_great true b' t cb f w (by omega) t1 hf hl f9) (by omega)).mono fun e w' ⟨M, o, g, hM, h1, O, g9, hv, hb⟩ => ⟨_, h1, fin true B (by omega) O g9 (by rw [hv, hN]), hb⟩
  by_cases hB : B = 0
  · subst hB
    rw [HB.zero, Int.add_zero]
    rcases HA with ⟨rfl, b0, b1⟩ | ⟨neg, b', t, cb, f, rfl, t3, tK, tc, t1, hf, hl, f9, top, hN⟩
    · have := zAdd_any A 0 b0 b1 (by decide) (by decide) w
      rw [Int.add_zero] at this
      exact this.mono fun e w' ⟨v, h1, h2, hb⟩ => ⟨v, h1, h2.mono (by omega), hb⟩
    · cases neg
      · exact (rAdd_zeroRp t f 0 false _ t cb w (rep_great false b' t cb f w (by omega) t1 hf hl f9) (by omega)).mono fun e w' ⟨M, o, g, hM, h1, O, g9, hv, hb⟩ => ⟨_, h1, fin false A (by omega) O g9 (by rw [hv, hN]), hb⟩
      · exact (rAdd_zeroRn t f 0 true _ t cb w (rep_great true b' t cb f w (by omega) t1 hf hl f9) (by omega)).mono fun e w' ⟨M, o, g, hM, h1, O, g9, hv, hb⟩ => ⟨_, h1, fin true A (by omega) O g9 (by rw [hv, hN]), hb⟩
  obtain ⟨sa, na, n, x, va, ga, pa, ta, ca, rfl, RA, nK, n0, tx, eA, SA⟩ := HA.rep2 hK hA
  obtain ⟨sb, nb, m, y, vb, gb, pb, tb, cb, rfl, RB, mL, m0, ty, eB, SB⟩ := HB.rep2 hL hB
  have same : (na == nb) = true → ∀ X : Nat, X = val x n + val y m → sg na X = A + B := by
    intro h X hX
    have e : na = nb := by simpa using h
    rw [eA, eB, hX, ← e]
    cases na <;> simp [sg] <;> omega
  have ge : (na == nb) = false → ∀ X : Nat, X + val y m = val x n → sg na X = A + B := by
    intro h X hX
    rw [eA, eB]
    cases na <;> cases nb <;> simp at h <;> simp [sg] <;> omega
  have lt : (na == nb) = false → ∀ X : Nat, X + val x n = val y m → sg nb X = A + B := by
    intro h X hX
    rw [eA, eB]
    cases na <;> cases nb <;> simp at h <;> simp [sg] <;> omega
  have both : sa = true → sb = true → Calls Tryd.prog 41 #[.agg #[.int .i64 va, .bool ga, .slice pa ta ca], .agg #[.int .i64 vb, .bool gb, .slice pb tb cb]] w fun r w' => ∃ v, r = .returned v ∧ Num w' (K + L + 1) v (A + B) ∧ Below w.heap.size w w' := by
    intro h1 h2
    obtain ⟨f1, a1, a2⟩ := SA h1
    obtain ⟨f2, b1, b2⟩ := SB h2
    rw [f1, f2]
    exact (zAdd_any A B a1 a2 b1 b2 w).mono fun e w' ⟨v, h1, h2, hb⟩ => ⟨v, h1, h2.mono (by omega), hb⟩
  cases hE : (na == nb)
  · rcases Nat.lt_or_ge (val x n) (val y m) with hv | hv
    · cases sa
      · exact (rAdd_ltG sb na nb n m x y va vb ga gb pa pb ta ca tb cb w RA RB tx ty hE hv).mono fun e w' ⟨o, f, h1, O, f9, hX, hb⟩ => ⟨_, h1, fin nb _ (by omega) O f9 (lt hE _ hX), hb⟩
      cases sb
      · exact (rAdd_ltS na nb n m x y va vb ga gb pa pb ta ca tb cb w RA RB tx ty hE hv).mono fun e w' ⟨o, f, h1, O, f9, hX, hb⟩ => ⟨_, h1, fin nb _ (by omega) O f9 (lt hE _ hX), hb⟩
      · exact both rfl rfl
    · cases sa
      · exact (rAdd_geG sb na nb n m x y va vb ga gb pa pb ta ca tb cb w RA RB tx ty hE hv).mono fun e w' ⟨o, f, h1, O, f9, hX, hb⟩ => ⟨_, h1, fin na _ (by omega) O f9 (ge hE _ hX), hb⟩
      cases sb
      · exact (rAdd_geS na nb n m x y va vb ga gb pa pb ta ca tb cb w RA RB tx ty hE hv).mono fun e w' ⟨o, f, h1, O, f9, hX, hb⟩ => ⟨_, h1, fin na _ (by omega) O f9 (ge hE _ hX), hb⟩
      · exact both rfl rfl
  · cases sa
    · exact (rAdd_sameG sb na nb n m x y va vb ga gb pa pb ta ca tb cb w RA RB hE).mono fun e w' ⟨N, o, f, hN, h1, O, f9, hX, hb⟩ => ⟨_, h1, fin na _ (by omega) O f9 (same hE _ hX), hb⟩
    cases sb
    · exact (rAdd_sameS na nb n m x y va vb ga gb pa pb ta ca tb cb w RA RB hE).mono fun e w' ⟨N, o, f, hN, h1, O, f9, hX, hb⟩ => ⟨_, h1, fin na _ (by omega) O f9 (same hE _ hX), hb⟩
    · exact both rfl rfl
end Go.Proofs.YtoloenkcfpfgcaaDoor
