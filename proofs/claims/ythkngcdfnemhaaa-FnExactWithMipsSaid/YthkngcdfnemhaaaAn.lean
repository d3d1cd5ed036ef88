/- FetchColor of both sides. -/
import Derived.Test.YthkngcdfnemhaaaAm
namespace Go.Proofs.Ythkngcdfnemhaaa
open Go.ChangeShapes Go.WideShapes Go.ChangeAt Go.RowKit
set_option linter.unusedVariables false
/-- What FetchColor and its like take. -/
def fcB (s y l : Int) (n : Nat) (F : Nat → List Int) (k e : Int) (c : Col) : Bool := (gtB s y l n F && egB e c.r c.g c.b c.a) && (decide (0 ≤ k) && decide (k < (n : Int)))
def zC : Col := ⟨0, 0, 0, 0⟩
theorem fc_iff {s y l : Int} {n : Nat} {F : Nat → List Int} {k e : Int} {c : Col} (h : fcB s y l n F k e c = true) : gtB s y l n F = true ∧ egB e c.r c.g c.b c.a = true ∧ 0 ≤ k ∧ k < n := by
  unfold fcB at h
  simp only [Bool.and_eq_true, decide_eq_true_eq] at h
  exact ⟨h.1.1, h.1.2, h.2.1, h.2.2⟩
theorem fc_no {s y l : Int} {n : Nat} {F : Nat → List Int} {k e : Int} {c : Col} (h : fcB s y l n F k e c = false) : (gtB s y l n F && egB e c.r c.g c.b c.a) = false ∨ (gtB s y l n F && egB e c.r c.g c.b c.a) = true ∧ k < 0 ∨ (gtB s y l n F && egB e c.r c.g c.b c.a) = true ∧ 0 ≤ k ∧ (n : Int) ≤ k := by
  unfold fcB at h
  cases hg : gtB s y l n F && egB e c.r c.g c.b c.a
  · exact Or.inl rfl
  · rw [hg] at h
    simp only [Bool.true_and, Bool.and_eq_false_iff, decide_eq_false_iff_not] at h
    rcases h with h | h
    · exact Or.inr (Or.inl ⟨rfl, by omega⟩)
    · by_cases hk : k < 0
      · exact Or.inr (Or.inl ⟨rfl, hk⟩)
      · exact Or.inr (Or.inr ⟨rfl, by omega, by omega⟩)
/-- What FetchColor answers. -/
def fcC (s y l : Int) (n : Nat) (F : Nat → List Int) (k x z e : Int) (c : Col) : Col := if fcB s y l n F k e c then ftC l (sdI s k.toNat) (sdI y k.toNat) (F k.toNat) x z e c else zC
set_option maxRecDepth 100000 in
set_option maxHeartbeats 2000000 in
theorem mfet (s y l : Int) (v : Value) (n : Nat) (F : Nat → List Int) (k x z e : Int) (c : Col) (w : World) (R : BRows w v n F) (bf : ByF n F) (hx : I64 x) (hz : I64 z) (hn : n ≤ 1048576) (hfl : ∀ x, x < n → (F x).length ≤ 1048576) : Calls Try.prog 36 #[.agg #[.int .i64 s, .int .i64 y, .int .i64 l, v], .int .i64 k, .int .i64 x, .int .i64 z, .int .i64 e, colV c] w fun e' w' => e' = .returned (.tuple #[colV (fcC s y l n F k x z e c), .bool (fcB s y l n F k e c)]) ∧ Below w.heap.size w w' := by
  have HM : Hid (∀ w', Below w.heap.size w w' → Calls Try.prog 61 #[.agg #[.int .i64 s, .int .i64 y, .int .i64 l, v], .int .i64 e, .agg #[.int .i64 c.r, .int .i64 c.g, .int .i64 c.b, .int .i64 c.a]] w' fun x w'' => x = .returned (.bool (gtB s y l n F && egB e c.r c.g c.b c.a)) ∧ Below w'.heap.size w' w'') := fun w' b => margs s y l v n F e c.r c.g c.b c.a w' (R.next b) hn hfl
  have HRR : Hid (∀ w', Below w.heap.size w w' → BRows w' v n F) := fun w' b => R.next b
  obtain ⟨ad, cp, rfl, _⟩ := R
  have HALL : Hid (∀ w', Below (((w.alloc (.cells #[.int .i64 s, .int .i64 y, .int .i64 l, .slice ad n cp] 43)).alloc (.cells #[.int .i64 c.r, .int .i64 c.g, .int .i64 c.b, .int .i64 c.a] 25)).alloc (.cells #[.int .i64 0, .int .i64 0, .int .i64 0, .int .i64 0] 25)).heap.size (((w.alloc (.cells #[.int .i64 s, .int .i64 y, .int .i64 l, .slice ad n cp] 43)).alloc (.cells #[.int .i64 c.r, .int .i64 c.g, .int .i64 c.b, .int .i64 c.a] 25)).alloc (.cells #[.int .i64 0, .int .i64 0, .int .i64 0, .int .i64 0] 25)) w' → Hid (Below w.heap.size w w') ∧ C4 w' w.heap.size (.int .i64 s) (.int .i64 y) (.int .i64 l) (.slice ad n cp) ∧ C4 w' (w.heap.size + 1) (.int .i64 c.r) (.int .i64 c.g) (.int .i64 c.b) (.int .i64 c.a) ∧ C4 w' (w.heap.size + 1 + 1) (.int .i64 0) (.int .i64 0) (.int .i64 0) (.int .i64 0)) := fun w' b => ⟨(b3 (o1 := (.cells #[.int .i64 s, .int .i64 y, .int .i64 l, .slice ad n cp] 43)) (o2 := (.cells #[.int .i64 c.r, .int .i64 c.g, .int .i64 c.b, .int .i64 c.a] 25)) (o3 := (.cells #[.int .i64 0, .int .i64 0, .int .i64 0, .int .i64 0] 25))).trans (b.mono (b3 (o1 := (.cells #[.int .i64 s, .int .i64 y, .int .i64 l, .slice ad n cp] 43)) (o2 := (.cells #[.int .i64 c.r, .int .i64 c.g, .int .i64 c.b, .int .i64 c.a] 25)) (o3 := (.cells #[.int .i64 0, .int .i64 0, .int .i64 0, .int .i64 0] 25))).size), (((C4.new w 43 (.int .i64 s) (.int .i64 y) (.int .i64 l) (.slice ad n cp)).next (alloc_b (o := (.cells #[.int .i64 c.r, .int .i64 c.g, .int .i64 c.b, .int .i64 c.a] 25)))).next (alloc_b (o := (.cells #[.int .i64 0, .int .i64 0, .int .i64 0, .int .i64 0] 25)))).next b, by
    have h := ((C4.new (w.alloc (.cells #[.int .i64 s, .int .i64 y, .int .i64 l, .slice ad n cp] 43)) 25 (.int .i64 c.r) (.int .i64 c.g) (.int .i64 c.b) (.int .i64 c.a)).next (alloc_b (o := (.cells #[.int .i64 0, .int .i64 0, .int .i64 0, .int .i64 0] 25)))).next b
    rwa [World.size_alloc] at h, by
    have h := (C4.new ((w.alloc (.cells #[.int .i64 s, .int .i64 y, .int .i64 l, .slice ad n cp] 43)).alloc (.cells #[.int .i64 c.r, .int .i64 c.g, .int .i64 c.b, .int .i64 c.a] 25)) 25 (.int .i64 0) (.int .i64 0) (.int .i64 0) (.int .i64 0)).next b
    rwa [World.size_alloc, World.size_alloc] at h⟩
  have HB3 : Hid (Below w.heap.size w (((w.alloc (.cells #[.int .i64 s, .int .i64 y, .int .i64 l, .slice ad n cp] 43)).alloc (.cells #[.int .i64 c.r, .int .i64 c.g, .int .i64 c.b, .int .i64 c.a] 25)).alloc (.cells #[.int .i64 0, .int .i64 0, .int .i64 0, .int .i64 0] 25))) := b3
  unfold fcC
  cases hb : fcB s y l n F k e c
  · rw [if_neg (by decide)]
    unfold colV zC
    have hno := fc_no hb
    clear hb
    generalize (gtB s y l n F && egB e c.r c.g c.b c.a) = GB at HM hno
    rcases hno with rfl | ⟨rfl, k0⟩ | ⟨rfl, k0, k1⟩
    all_goals
      go_enter Try.func36, Try.ntmps36
      go_wp2_with (go_at_call 61; refine (HM.out _ HB3.out).mono ?_; rintro e9 w2 ⟨rfl, B2⟩; (obtain ⟨BXX, T2, K2, DX⟩ := HALL.out w2 B2); (have t0 := T2.c0); (have t1 := T2.c1); (have t2 := T2.c2); (have t3 := T2.c3); (have tf := T2.f); (have k0 := K2.c0); (have k1 := K2.c1); (have k2 := K2.c2); (have k3 := K2.c3); (have kf := K2.f); (have x0 := DX.c0); (have x1 := DX.c1); (have x2 := DX.c2); (have x3 := DX.c3); (have xf := DX.f))
      clear x0 x1 x2 x3 xf
      have D6 := DX.put (.int .i64 0) (.int .i64 0) (.int .i64 0) (.int .i64 0)
      have B06 : Below w.heap.size w (set4 w2 (w.heap.size + 1 + 1) (.int .i64 0) (.int .i64 0) (.int .i64 0) (.int .i64 0)) := BXX.out.trans ((only_set4 w2 (w.heap.size + 1 + 1) _ _ _ _).below (by omega) BXX.out.size)
      unfold set4 at D6 B06
      have r0 := D6.c0
      have r1 := D6.c1
      have r2 := D6.c2
      have r3 := D6.c3
      exact bodyPost_ret (v := .tuple #[.agg #[.int .i64 0, .int .i64 0, .int .i64 0, .int .i64 0], .bool false]) (by simp [results, Try.results36, go_sem, r0, r1, r2, r3]) rfl ⟨rfl, B06⟩
  · rw [if_pos rfl]
    obtain ⟨g1, g2, k0, k1⟩ := fc_iff hb
    rw [g1, g2] at HM
    have HF : Hid (∀ w', Below w.heap.size w w' → Calls Try.prog 62 #[.agg #[.int .i64 s, .int .i64 y, .int .i64 l, .slice ad n cp], .int .i64 k, .int .i64 x, .int .i64 z, .int .i64 e, .agg #[.int .i64 c.r, .int .i64 c.g, .int .i64 c.b, .int .i64 c.a]] w' fun e' w'' => e' = .returned (colV (ftC l (sdI s k.toNat) (sdI y k.toNat) (F k.toNat) x z e c)) ∧ Below w'.heap.size w' w'') := fun w' b => by
      have h := mfetch s y l _ n k.toNat F x z e c w' (HRR.out w' b) g1 (by omega) bf hx hz hn hfl
      rwa [show ((k.toNat : Nat) : Int) = k by omega] at h
    unfold colV at HF ⊢
    generalize ftC l (sdI s k.toNat) (sdI y k.toNat) (F k.toNat) x z e c = q at HF ⊢
    clear hb g1 g2 HRR
    go_enter Try.func36, Try.ntmps36
    go_wp2_with (first | (go_at_call 61; refine (HM.out _ HB3.out).mono ?_; rintro e9 w2 ⟨rfl, B2⟩; (obtain ⟨BXX, T2, K2, DX⟩ := HALL.out w2 B2); (have t0 := T2.c0); (have t1 := T2.c1); (have t2 := T2.c2); (have t3 := T2.c3); (have tf := T2.f); (have k0 := K2.c0); (have k1 := K2.c1); (have k2 := K2.c2); (have k3 := K2.c3); (have kf := K2.f); (have x0 := DX.c0); (have x1 := DX.c1); (have x2 := DX.c2); (have x3 := DX.c3); (have xf := DX.f)) | (go_at_call 62; refine (HF.out _ BXX.out).mono ?_; rintro e9 w3 ⟨rfl, B3⟩; (have DY := DX.next B3); (have BY := BXX.out.trans (B3.mono BXX.out.size)); (have z0 := DY.c0); (have z1 := DY.c1); (have z2 := DY.c2); (have z3 := DY.c3); (have zf := DY.f)))
    clear x0 x1 x2 x3 xf z0 z1 z2 z3 zf
    have D6 := DY.put (.int .i64 q.r) (.int .i64 q.g) (.int .i64 q.b) (.int .i64 q.a)
    have B06 : Below w.heap.size w (set4 w3 (w.heap.size + 1 + 1) (.int .i64 q.r) (.int .i64 q.g) (.int .i64 q.b) (.int .i64 q.a)) := BY.trans ((only_set4 w3 (w.heap.size + 1 + 1) _ _ _ _).below (by omega) BY.size)
    unfold set4 at D6 B06
    have r0 := D6.c0
    have r1 := D6.c1
    have r2 := D6.c2
    have r3 := D6.c3
    exact bodyPost_ret (v := .tuple #[.agg #[.int .i64 q.r, .int .i64 q.g, .int .i64 q.b, .int .i64 q.a], .bool true]) (by simp [results, Try.results36, go_sem, r0, r1, r2, r3]) rfl ⟨rfl, B06⟩
set_option maxRecDepth 100000 in
set_option maxHeartbeats 2000000 in
theorem pfetch (l A B : Int) (u : Value) (L : List Int) (x z e : Int) (c : Col) (w : World) (R : BRow w u L) (hf : l = 1 ∨ l = 2 ∨ l = 3) (bf : ∀ j, j < L.length → 0 ≤ L.getD j 0 ∧ L.getD j 0 ≤ 255) (a0 : 1 ≤ A) (a1 : A ≤ 16) (b0 : 1 ≤ B) (b1 : B ≤ 16) (hl : (L.length : Int) = A * B * (szF l : Int)) (he : 1 ≤ e ∧ e ≤ 4) (hx : I64 x) (hz : I64 z) (hlk : L.length ≤ 1048576) :
    Calls Try.prog 64 #[.agg #[.int .i64 A, .int .i64 B, fmV l, u, .int .i64 e, .int .i64 c.r, .int .i64 c.g, .int .i64 c.b, .int .i64 c.a], .int .i64 x, .int .i64 z] w fun e' w' => e' = .returned (colV (ftC l A B L x z e c)) ∧ Below w.heap.size w w' := by
  have HX : Hid (∀ w : World, Calls Try.prog 82 #[.int .i64 x, .int .i64 A, .int .i64 e] w fun r w' => r = .returned (.int .i64 (edI x A e)) ∧ w' = w) := fun w => pplace x A e w hx a0 a1 he
  have HY : Hid (∀ w : World, Calls Try.prog 82 #[.int .i64 z, .int .i64 B, .int .i64 e] w fun r w' => r = .returned (.int .i64 (edI z B e)) ∧ w' = w) := fun w => pplace z B e w hz b0 b1 he
  have xb := edI_bnd x A e a0
  have yb := edI_bnd z B e b0
  have HQ : Hid (ftC l A B L x z e c = if edI x A e < 0 ∨ edI z B e < 0 then c else pxC l L (ptN l A (edI x A e) (edI z B e))) := rfl
  generalize edI x A e = X at HX xb HQ
  generalize edI z B e = Y at HY yb HQ
  obtain ⟨q, hq⟩ : ∃ q, ftC l A B L x z e c = q := ⟨_, rfl⟩
  rw [hq] at HQ ⊢
  have HA : Hid (¬ X < 0 → ¬ Y < 0 → ∀ w', Below w.heap.size w w' → Calls Try.prog 83 #[.agg #[.int .i64 A, .int .i64 B, fmV l, u], .int .i64 X, .int .i64 Y] w' fun e w'' => e = .returned (.agg #[.int .i64 q.r, .int .i64 q.g, .int .i64 q.b, .int .i64 q.a]) ∧ Below w'.heap.size w' w'') := fun h1 h2 w' b => by
    obtain ⟨f1, f2, f3, f4, f5⟩ := pt_facts hf a0 a1 b0 b1 hl (show 0 ≤ X by omega) xb.2 (show 0 ≤ Y by omega) yb.2
    have h := pat l u L (ptN l A X Y) A B X Y w' (R.next b) hf bf f1 f2 f3 f4 (by omega) (by omega) f5 hlk
    rw [HQ.out, if_neg (by omega)]
    exact h
  obtain ⟨ra, rc, rfl, _⟩ := R
  generalize L.length = lk at *
  generalize fmV l = FV at HA ⊢
  have HALL : Hid (∀ w', Below ((w.alloc (.cells #[.int .i64 A, .int .i64 B, FV, .slice ra lk rc, .int .i64 e, .int .i64 c.r, .int .i64 c.g, .int .i64 c.b, .int .i64 c.a] 87)).alloc (.cells #[.int .i64 0, .int .i64 0, .int .i64 0, .int .i64 0] 25)).heap.size ((w.alloc (.cells #[.int .i64 A, .int .i64 B, FV, .slice ra lk rc, .int .i64 e, .int .i64 c.r, .int .i64 c.g, .int .i64 c.b, .int .i64 c.a] 87)).alloc (.cells #[.int .i64 0, .int .i64 0, .int .i64 0, .int .i64 0] 25)) w' → Hid (Below w.heap.size w w') ∧ C9 w' w.heap.size (.int .i64 A) (.int .i64 B) (FV) (.slice ra lk rc) (.int .i64 e) (.int .i64 c.r) (.int .i64 c.g) (.int .i64 c.b) (.int .i64 c.a) ∧ C4 w' (w.heap.size + 1) (.int .i64 0) (.int .i64 0) (.int .i64 0) (.int .i64 0)) := fun w' b => ⟨(b2_ (o1 := (.cells #[.int .i64 A, .int .i64 B, FV, .slice ra lk rc, .int .i64 e, .int .i64 c.r, .int .i64 c.g, .int .i64 c.b, .int .i64 c.a] 87)) (o2 := (.cells #[.int .i64 0, .int .i64 0, .int .i64 0, .int .i64 0] 25))).trans (b.mono (b2_ (o1 := (.cells #[.int .i64 A, .int .i64 B, FV, .slice ra lk rc, .int .i64 e, .int .i64 c.r, .int .i64 c.g, .int .i64 c.b, .int .i64 c.a] 87)) (o2 := (.cells #[.int .i64 0, .int .i64 0, .int .i64 0, .int .i64 0] 25))).size), ((C9.new w 87 (.int .i64 A) (.int .i64 B) (FV) (.slice ra lk rc) (.int .i64 e) (.int .i64 c.r) (.int .i64 c.g) (.int .i64 c.b) (.int .i64 c.a)).next (alloc_b (o := (.cells #[.int .i64 0, .int .i64 0, .int .i64 0, .int .i64 0] 25)))).next b, by
    have h := (C4.new (w.alloc (.cells #[.int .i64 A, .int .i64 B, FV, .slice ra lk rc, .int .i64 e, .int .i64 c.r, .int .i64 c.g, .int .i64 c.b, .int .i64 c.a] 87)) 25 (.int .i64 0) (.int .i64 0) (.int .i64 0) (.int .i64 0)).next b
    rwa [World.size_alloc] at h⟩
  have x9 : X = -1 ∨ 0 ≤ X := by omega
  have y9 : Y = -1 ∨ 0 ≤ Y := by omega
  clear bf hq
  unfold colV
  rcases x9 with rfl | x0
  case inl =>
    have HQ2 : Hid (q = c) := by show q = c; rw [HQ.out, if_pos (Or.inl (by decide))]
    clear HA HQ
    go_enter Try.func64, Try.ntmps64
    go_wp2
    go_quiet (first | (go_at_call 82; (with_reducible show Calls Try.prog 82 #[.int .i64 x, .int .i64 A, .int .i64 e] _ _); exact Calls.quiet_of_same (HX.out _)) | (go_at_call 82; (with_reducible show Calls Try.prog 82 #[.int .i64 z, .int .i64 B, .int .i64 e] _ _); exact Calls.quiet_of_same (HY.out _)))
    obtain ⟨BXX, T2, DX⟩ := HALL.out _ (below_drewN (Below.refl _ _) nq)
    generalize hWW : World.drewN _ nq = w2 at BXX T2 DX ⊢
    clear hWW
    have t0 := T2.c0
    have t1 := T2.c1
    have t2 := T2.c2
    have t3 := T2.c3
    have t4 := T2.c4
    have t5 := T2.c5
    have t6 := T2.c6
    have t7 := T2.c7
    have t8 := T2.c8
    have x0 := DX.c0
    have x1 := DX.c1
    have x2 := DX.c2
    have x3 := DX.c3
    have xf := DX.f
    go_wp2
    clear x0 x1 x2 x3 xf
    have D6 := DX.put (.int .i64 c.r) (.int .i64 c.g) (.int .i64 c.b) (.int .i64 c.a)
    have B06 : Below w.heap.size w (set4 w2 (w.heap.size + 1) (.int .i64 c.r) (.int .i64 c.g) (.int .i64 c.b) (.int .i64 c.a)) := BXX.out.trans ((only_set4 w2 (w.heap.size + 1) _ _ _ _).below (by omega) BXX.out.size)
    unfold set4 at D6 B06
    have r0 := D6.c0
    have r1 := D6.c1
    have r2 := D6.c2
    have r3 := D6.c3
    obtain rfl := HQ2.out
    exact bodyPost_ret (v := .agg #[.int .i64 q.r, .int .i64 q.g, .int .i64 q.b, .int .i64 q.a]) (by simp [results, Try.results64, go_sem, r0, r1, r2, r3]) rfl ⟨rfl, B06⟩
  rcases y9 with rfl | y0
  case inl =>
    have HQ2 : Hid (q = c) := by show q = c; rw [HQ.out, if_pos (Or.inr (by decide))]
    clear HA HQ
    have xn : (X == -1) = false := by simp; omega
    go_enter Try.func64, Try.ntmps64
    go_wp2
    go_quiet (first | (go_at_call 82; (with_reducible show Calls Try.prog 82 #[.int .i64 x, .int .i64 A, .int .i64 e] _ _); exact Calls.quiet_of_same (HX.out _)) | (go_at_call 82; (with_reducible show Calls Try.prog 82 #[.int .i64 z, .int .i64 B, .int .i64 e] _ _); exact Calls.quiet_of_same (HY.out _)))
    obtain ⟨BXX, T2, DX⟩ := HALL.out _ (below_drewN (Below.refl _ _) nq)
    generalize hWW : World.drewN _ nq = w2 at BXX T2 DX ⊢
    clear hWW
    have t0 := T2.c0
    have t1 := T2.c1
    have t2 := T2.c2
    have t3 := T2.c3
    have t4 := T2.c4
    have t5 := T2.c5
    have t6 := T2.c6
    have t7 := T2.c7
    have t8 := T2.c8
    have x0 := DX.c0
    have x1 := DX.c1
    have x2 := DX.c2
    have x3 := DX.c3
    have xf := DX.f
    go_wp2
    clear x0 x1 x2 x3 xf
    have D6 := DX.put (.int .i64 c.r) (.int .i64 c.g) (.int .i64 c.b) (.int .i64 c.a)
    have B06 : Below w.heap.size w (set4 w2 (w.heap.size + 1) (.int .i64 c.r) (.int .i64 c.g) (.int .i64 c.b) (.int .i64 c.a)) := BXX.out.trans ((only_set4 w2 (w.heap.size + 1) _ _ _ _).below (by omega) BXX.out.size)
    unfold set4 at D6 B06
    have r0 := D6.c0
    have r1 := D6.c1
    have r2 := D6.c2
    have r3 := D6.c3
    obtain rfl := HQ2.out
    exact bodyPost_ret (v := .agg #[.int .i64 q.r, .int .i64 q.g, .int .i64 q.b, .int .i64 q.a]) (by simp [results, Try.results64, go_sem, r0, r1, r2, r3]) rfl ⟨rfl, B06⟩
  have HAT := Hid.mk (HA.out (by omega) (by omega))
  clear HA HQ
  have xn : (X == -1) = false := by simp; omega
  have yn : (Y == -1) = false := by simp; omega
  go_enter Try.func64, Try.ntmps64
  go_wp2
  go_quiet (first | (go_at_call 82; (with_reducible show Calls Try.prog 82 #[.int .i64 x, .int .i64 A, .int .i64 e] _ _); exact Calls.quiet_of_same (HX.out _)) | (go_at_call 82; (with_reducible show Calls Try.prog 82 #[.int .i64 z, .int .i64 B, .int .i64 e] _ _); exact Calls.quiet_of_same (HY.out _)))
  obtain ⟨BXX, T2, DX⟩ := HALL.out _ (below_drewN (Below.refl _ _) nq)
  generalize hWW : World.drewN _ nq = w2 at BXX T2 DX ⊢
  clear hWW
  have t0 := T2.c0
  have t1 := T2.c1
  have t2 := T2.c2
  have t3 := T2.c3
  have t4 := T2.c4
  have t5 := T2.c5
  have t6 := T2.c6
  have t7 := T2.c7
  have t8 := T2.c8
  have x0 := DX.c0
  have x1 := DX.c1
  have x2 := DX.c2
  have x3 := DX.c3
  have xf := DX.f
  go_wp2_with (go_at_call 83; refine (HAT.out _ BXX.out).mono ?_; rintro e9 w3 ⟨rfl, B3⟩; (have DY := DX.next B3); (have BY := BXX.out.trans (B3.mono BXX.out.size)); (have z0 := DY.c0); (have z1 := DY.c1); (have z2 := DY.c2); (have z3 := DY.c3); (have zf := DY.f))
  clear x0 x1 x2 x3 xf z0 z1 z2 z3 zf
  have D6 := DY.put (.int .i64 q.r) (.int .i64 q.g) (.int .i64 q.b) (.int .i64 q.a)
  have B06 : Below w.heap.size w (set4 w3 (w.heap.size + 1) (.int .i64 q.r) (.int .i64 q.g) (.int .i64 q.b) (.int .i64 q.a)) := BY.trans ((only_set4 w3 (w.heap.size + 1) _ _ _ _).below (by omega) BY.size)
  unfold set4 at D6 B06
  have r0 := D6.c0
  have r1 := D6.c1
  have r2 := D6.c2
  have r3 := D6.c3
  exact bodyPost_ret (v := .agg #[.int .i64 q.r, .int .i64 q.g, .int .i64 q.b, .int .i64 q.a]) (by simp [results, Try.results64, go_sem, r0, r1, r2, r3]) rfl ⟨rfl, B06⟩
end Go.Proofs.Ythkngcdfnemhaaa
