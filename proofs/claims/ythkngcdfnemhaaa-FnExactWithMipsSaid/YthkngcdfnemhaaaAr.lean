/- SampleColor of both sides. -/
import Derived.Test.YthkngcdfnemhaaaAx
namespace Go.Proofs.Ythkngcdfnemhaaa
open Go.ChangeShapes Go.WideShapes Go.ChangeAt Go.RowKit
set_option linter.unusedVariables false
/-- What SampleColor takes. -/
def scB (s y l : Int) (n : Nat) (F : Nat → List Int) (k su sv e : Int) (c : Col) : Bool := fcB s y l n F k e c && (plB su && plB sv)
/-- What SampleColor answers. -/
def scC (s y l : Int) (n : Nat) (F : Nat → List Int) (k su sv e : Int) (c : Col) : Col := if scB s y l n F k su sv e c then blC 4 (s4C l (sdI s k.toNat) (sdI y k.toNat) (F k.toNat) su sv e c) (s4T su sv) else zC
set_option maxRecDepth 100000 in
set_option maxHeartbeats 2000000 in
theorem msam (s y l : Int) (v : Value) (n : Nat) (F : Nat → List Int) (k su sv e : Int) (c : Col) (w : World) (R : BRows w v n F) (bf : ByF n F) (hn : n ≤ 1048576) (hfl : ∀ x, x < n → (F x).length ≤ 1048576) : Calls Try.prog 38 #[.agg #[.int .i64 s, .int .i64 y, .int .i64 l, v], .int .i64 k, .int .i64 su, .int .i64 sv, .int .i64 e, colV c] w fun e' w' => e' = .returned (.tuple #[colV (scC s y l n F k su sv e c), .bool (scB s y l n F k su sv e c)]) ∧ Below w.heap.size w w' := by
  have HM : Hid (∀ w', Below w.heap.size w w' → Calls Try.prog 61 #[.agg #[.int .i64 s, .int .i64 y, .int .i64 l, v], .int .i64 e, .agg #[.int .i64 c.r, .int .i64 c.g, .int .i64 c.b, .int .i64 c.a]] w' fun x w'' => x = .returned (.bool (gtB s y l n F && egB e c.r c.g c.b c.a)) ∧ Below w'.heap.size w' w'') := fun w' b => margs s y l v n F e c.r c.g c.b c.a w' (R.next b) hn hfl
  have HU : Hid (∀ w, Calls Try.prog 65 #[.int .i64 su] w fun e w' => e = .returned (.bool (plB su)) ∧ w' = w) := fun w => mplace su w
  have HV : Hid (∀ w, Calls Try.prog 65 #[.int .i64 sv] w fun e w' => e = .returned (.bool (plB sv)) ∧ w' = w) := fun w => mplace sv w
  have HRR : Hid (∀ w', Below w.heap.size w w' → BRows w' v n F) := fun w' b => R.next b
  obtain ⟨ad, cp, rfl, _⟩ := R
  have HALL : Hid (∀ w', Below (((w.alloc (.cells #[.int .i64 s, .int .i64 y, .int .i64 l, .slice ad n cp] 43)).alloc (.cells #[.int .i64 c.r, .int .i64 c.g, .int .i64 c.b, .int .i64 c.a] 25)).alloc (.cells #[.int .i64 0, .int .i64 0, .int .i64 0, .int .i64 0] 25)).heap.size (((w.alloc (.cells #[.int .i64 s, .int .i64 y, .int .i64 l, .slice ad n cp] 43)).alloc (.cells #[.int .i64 c.r, .int .i64 c.g, .int .i64 c.b, .int .i64 c.a] 25)).alloc (.cells #[.int .i64 0, .int .i64 0, .int .i64 0, .int .i64 0] 25)) w' → Hid (Below w.heap.size w w') ∧ C4 w' w.heap.size (.int .i64 s) (.int .i64 y) (.int .i64 l) (.slice ad n cp) ∧ C4 w' (w.heap.size + 1) (.int .i64 c.r) (.int .i64 c.g) (.int .i64 c.b) (.int .i64 c.a) ∧ C4 w' (w.heap.size + 1 + 1) (.int .i64 0) (.int .i64 0) (.int .i64 0) (.int .i64 0)) := fun w' b => ⟨(b3 (o1 := (.cells #[.int .i64 s, .int .i64 y, .int .i64 l, .slice ad n cp] 43)) (o2 := (.cells #[.int .i64 c.r, .int .i64 c.g, .int .i64 c.b, .int .i64 c.a] 25)) (o3 := (.cells #[.int .i64 0, .int .i64 0, .int .i64 0, .int .i64 0] 25))).trans (b.mono (b3 (o1 := (.cells #[.int .i64 s, .int .i64 y, .int .i64 l, .slice ad n cp] 43)) (o2 := (.cells #[.int .i64 c.r, .int .i64 c.g, .int .i64 c.b, .int .i64 c.a] 25)) (o3 := (.cells #[.int .i64 0, .int .i64 0, .int .i64 0, .int .i64 0] 25))).size), (((C4.new w 43 (.int .i64 s) (.int .i64 y) (.int .i64 l) (.slice ad n cp)).next (alloc_b (o := (.cells #[.int .i64 c.r, .int .i64 c.g, .int .i64 c.b, .int .i64 c.a] 25)))).next (alloc_b (o := (.cells #[.int .i64 0, .int .i64 0, .int .i64 0, .int .i64 0] 25)))).next b, by
    have h := ((C4.new (w.alloc (.cells #[.int .i64 s, .int .i64 y, .int .i64 l, .slice ad n cp] 43)) 25 (.int .i64 c.r) (.int .i64 c.g) (.int .i64 c.b) (.int .i64 c.a)).next (alloc_b (o := (.cells #[.int .i64 0, .int .i64 0, .int .i64 0, .int .i64 0] 25)))).next b
    rwa [World.size_alloc] at h, by
    have h := (C4.new ((w.alloc (.cells #[.int .i64 s, .int .i64 y, .int .i64 l, .slice ad n cp] 43)).alloc (.cells #[.int .i64 c.r, .int .i64 c.g, .int .i64 c.b, .int .i64 c.a] 25)) 25 (.int .i64 0) (.int .i64 0) (.int .i64 0) (.int .i64 0)).next b
    rwa [World.size_alloc, World.size_alloc] at h⟩
  have HB3 : Hid (Below w.heap.size w (((w.alloc (.cells #[.int .i64 s, .int .i64 y, .int .i64 l, .slice ad n cp] 43)).alloc (.cells #[.int .i64 c.r, .int .i64 c.g, .int .i64 c.b, .int .i64 c.a] 25)).alloc (.cells #[.int .i64 0, .int .i64 0, .int .i64 0, .int .i64 0] 25))) := b3
  unfold scC
  cases hb : fcB s y l n F k e c
  · rw [show scB s y l n F k su sv e c = false by unfold scB; rw [hb]; rfl, if_neg (by decide)]
    unfold colV zC
    have hno := fc_no hb
    clear hb
    generalize (gtB s y l n F && egB e c.r c.g c.b c.a) = GB at HM hno
    rcases hno with rfl | ⟨rfl, k0⟩ | ⟨rfl, k0, k1⟩
    all_goals
      go_enter Try.func38, Try.ntmps38
      go_wp2_with (go_at_call 61; refine (HM.out _ HB3.out).mono ?_; rintro e9 w2 ⟨rfl, B2⟩; (obtain ⟨BXX, T2, K2, DX⟩ := HALL.out w2 B2); (have t0 := T2.c0); (have t1 := T2.c1); (have t2 := T2.c2); (have t3 := T2.c3); (have tf := T2.f); (have k0 := K2.c0); (have k1 := K2.c1); (have k2 := K2.c2); (have k3 := K2.c3); (have kf := K2.f); (have x0 := DX.c0); (have x1 := DX.c1); (have x2 := DX.c2); (have x3 := DX.c3); (have xf := DX.f))
      clear x0 x1 x2 x3 xf
      have D6 := DX.put (.int .i64 0) (.int .i64 0) (.int .i64 0) (.int .i64 0)
      have B06 : Below w.heap.size w (set4 w2 (w.heap.size + 1 + 1) (.int .i64 0) (.int .i64 0) (.int .i64 0) (.int .i64 0)) := BXX.out.trans ((only_set4 w2 (w.heap.size + 1 + 1) _ _ _ _).below (by omega) BXX.out.size)
      unfold set4 at D6 B06
      have r0 := D6.c0
      have r1 := D6.c1
      have r2 := D6.c2
      have r3 := D6.c3
      exact bodyPost_ret (v := .tuple #[.agg #[.int .i64 0, .int .i64 0, .int .i64 0, .int .i64 0], .bool false]) (by simp [results, Try.results38, go_sem, r0, r1, r2, r3]) rfl ⟨rfl, B06⟩
  obtain ⟨g1, g2, k0, k1⟩ := fc_iff hb
  rw [g1, g2] at HM
  cases hu : plB su
  · rw [show scB s y l n F k su sv e c = false by unfold scB; rw [hb, hu]; rfl, if_neg (by decide)]
    rw [hu] at HU
    unfold colV zC
    clear hb hu g1 g2
    go_enter Try.func38, Try.ntmps38
    go_wp2_with (first | (go_at_call 61; refine (HM.out _ HB3.out).mono ?_; rintro e9 w2 ⟨rfl, B2⟩; (obtain ⟨BXX, T2, K2, DX⟩ := HALL.out w2 B2); (have t0 := T2.c0); (have t1 := T2.c1); (have t2 := T2.c2); (have t3 := T2.c3); (have tf := T2.f); (have k0 := K2.c0); (have k1 := K2.c1); (have k2 := K2.c2); (have k3 := K2.c3); (have kf := K2.f); (have x0 := DX.c0); (have x1 := DX.c1); (have x2 := DX.c2); (have x3 := DX.c3); (have xf := DX.f)) | (go_at_call 65; (with_reducible show Calls Try.prog 65 #[.int .i64 su] _ _); refine (HU.out _).mono ?_; rintro e9 w9 ⟨rfl, hw⟩; subst w9) | (go_at_call 65; (with_reducible show Calls Try.prog 65 #[.int .i64 sv] _ _); refine (HV.out _).mono ?_; rintro e9 w9 ⟨rfl, hw⟩; subst w9))
    clear x0 x1 x2 x3 xf
    have D6 := DX.put (.int .i64 0) (.int .i64 0) (.int .i64 0) (.int .i64 0)
    have B06 : Below w.heap.size w (set4 w2 (w.heap.size + 1 + 1) (.int .i64 0) (.int .i64 0) (.int .i64 0) (.int .i64 0)) := BXX.out.trans ((only_set4 w2 (w.heap.size + 1 + 1) _ _ _ _).below (by omega) BXX.out.size)
    unfold set4 at D6 B06
    have r0 := D6.c0
    have r1 := D6.c1
    have r2 := D6.c2
    have r3 := D6.c3
    exact bodyPost_ret (v := .tuple #[.agg #[.int .i64 0, .int .i64 0, .int .i64 0, .int .i64 0], .bool false]) (by simp [results, Try.results38, go_sem, r0, r1, r2, r3]) rfl ⟨rfl, B06⟩
  rw [hu] at HU
  cases hv : plB sv
  · rw [show scB s y l n F k su sv e c = false by unfold scB; rw [hb, hu, hv]; rfl, if_neg (by decide)]
    rw [hv] at HV
    unfold colV zC
    clear hb hu hv g1 g2
    go_enter Try.func38, Try.ntmps38
    go_wp2_with (first | (go_at_call 61; refine (HM.out _ HB3.out).mono ?_; rintro e9 w2 ⟨rfl, B2⟩; (obtain ⟨BXX, T2, K2, DX⟩ := HALL.out w2 B2); (have t0 := T2.c0); (have t1 := T2.c1); (have t2 := T2.c2); (have t3 := T2.c3); (have tf := T2.f); (have k0 := K2.c0); (have k1 := K2.c1); (have k2 := K2.c2); (have k3 := K2.c3); (have kf := K2.f); (have x0 := DX.c0); (have x1 := DX.c1); (have x2 := DX.c2); (have x3 := DX.c3); (have xf := DX.f)) | (go_at_call 65; (with_reducible show Calls Try.prog 65 #[.int .i64 su] _ _); refine (HU.out _).mono ?_; rintro e9 w9 ⟨rfl, hw⟩; subst w9) | (go_at_call 65; (with_reducible show Calls Try.prog 65 #[.int .i64 sv] _ _); refine (HV.out _).mono ?_; rintro e9 w9 ⟨rfl, hw⟩; subst w9))
    clear x0 x1 x2 x3 xf
    have D6 := DX.put (.int .i64 0) (.int .i64 0) (.int .i64 0) (.int .i64 0)
    have B06 : Below w.heap.size w (set4 w2 (w.heap.size + 1 + 1) (.int .i64 0) (.int .i64 0) (.int .i64 0) (.int .i64 0)) := BXX.out.trans ((only_set4 w2 (w.heap.size + 1 + 1) _ _ _ _).below (by omega) BXX.out.size)
    unfold set4 at D6 B06
    have r0 := D6.c0
    have r1 := D6.c1
    have r2 := D6.c2
    have r3 := D6.c3
    exact bodyPost_ret (v := .tuple #[.agg #[.int .i64 0, .int .i64 0, .int .i64 0, .int .i64 0], .bool false]) (by simp [results, Try.results38, go_sem, r0, r1, r2, r3]) rfl ⟨rfl, B06⟩
  rw [hv] at HV
  rw [show scB s y l n F k su sv e c = true by unfold scB; rw [hb, hu, hv]; rfl, if_pos rfl]
  have HF : Hid (∀ w', Below w.heap.size w w' → Calls Try.prog 66 #[.agg #[.int .i64 s, .int .i64 y, .int .i64 l, .slice ad n cp], .int .i64 k, .int .i64 su, .int .i64 sv, .int .i64 e, .agg #[.int .i64 c.r, .int .i64 c.g, .int .i64 c.b, .int .i64 c.a]] w' fun e' w'' => e' = .returned (colV (blC 4 (s4C l (sdI s k.toNat) (sdI y k.toNat) (F k.toNat) su sv e c) (s4T su sv))) ∧ Below w'.heap.size w' w'') := fun w' b => by
    have h := msmp s y l _ n k.toNat F su sv e c w' (HRR.out w' b) g1 (by omega) bf g2 (pl_iff hu) (pl_iff hv) hn hfl
    rwa [show ((k.toNat : Nat) : Int) = k by omega] at h
  unfold colV at HF ⊢
  generalize blC 4 (s4C l (sdI s k.toNat) (sdI y k.toNat) (F k.toNat) su sv e c) (s4T su sv) = q at HF ⊢
  clear hb hu hv g1 g2 HRR
  go_enter Try.func38, Try.ntmps38
  go_wp2_with (first | (go_at_call 61; refine (HM.out _ HB3.out).mono ?_; rintro e9 w2 ⟨rfl, B2⟩; (obtain ⟨BXX, T2, K2, DX⟩ := HALL.out w2 B2); (have t0 := T2.c0); (have t1 := T2.c1); (have t2 := T2.c2); (have t3 := T2.c3); (have tf := T2.f); (have k0 := K2.c0); (have k1 := K2.c1); (have k2 := K2.c2); (have k3 := K2.c3); (have kf := K2.f); (have x0 := DX.c0); (have x1 := DX.c1); (have x2 := DX.c2); (have x3 := DX.c3); (have xf := DX.f)) | (go_at_call 65; (with_reducible show Calls Try.prog 65 #[.int .i64 su] _ _); refine (HU.out _).mono ?_; rintro e9 w9 ⟨rfl, hw⟩; subst w9) | (go_at_call 65; (with_reducible show Calls Try.prog 65 #[.int .i64 sv] _ _); refine (HV.out _).mono ?_; rintro e9 w9 ⟨rfl, hw⟩; subst w9) | (go_at_call 66; refine (HF.out _ BXX.out).mono ?_; rintro e9 w3 ⟨rfl, B3⟩; (have DY := DX.next B3); (have BY := BXX.out.trans (B3.mono BXX.out.size)); (have z0 := DY.c0); (have z1 := DY.c1); (have z2 := DY.c2); (have z3 := DY.c3); (have zf := DY.f)))
  clear x0 x1 x2 x3 xf z0 z1 z2 z3 zf
  have D6 := DY.put (.int .i64 q.r) (.int .i64 q.g) (.int .i64 q.b) (.int .i64 q.a)
  have B06 : Below w.heap.size w (set4 w3 (w.heap.size + 1 + 1) (.int .i64 q.r) (.int .i64 q.g) (.int .i64 q.b) (.int .i64 q.a)) := BY.trans ((only_set4 w3 (w.heap.size + 1 + 1) _ _ _ _).below (by omega) BY.size)
  unfold set4 at D6 B06
  have r0 := D6.c0
  have r1 := D6.c1
  have r2 := D6.c2
  have r3 := D6.c3
  exact bodyPost_ret (v := .tuple #[.agg #[.int .i64 q.r, .int .i64 q.g, .int .i64 q.b, .int .i64 q.a], .bool true]) (by simp [results, Try.results38, go_sem, r0, r1, r2, r3]) rfl ⟨rfl, B06⟩
set_option maxRecDepth 100000 in
set_option maxHeartbeats 4000000 in
theorem psam (s y l : Int) (v : Value) (n : Nat) (F : Nat → List Int) (k su sv e : Int) (c : Col) (w : World) (R : BRows w v n F) (bf : ByF n F) (hn : n ≤ 1048576) (hfl : ∀ x, x < n → (F x).length ≤ 1048576) : Calls Try.prog 39 #[.agg #[.int .i64 s, .int .i64 y, .int .i64 l, v], .int .i64 k, .int .i64 su, .int .i64 sv, .int .i64 e, colV c] w fun e' w' => e' = .returned (.tuple #[colV (scC s y l n F k su sv e c), .bool (scB s y l n F k su sv e c)]) ∧ Below w.heap.size w w' := by
  have HRR : Hid (∀ w', Below w.heap.size w w' → BRows w' v n F) := fun w' b => R.next b
  have HG : Hid (∀ w, Calls Try.prog 67 #[.int .i64 su, .int .i64 sv] w fun e w' => e = .returned (.bool (plB su && plB sv)) ∧ w' = w) := fun w => pgoods su sv w
  obtain ⟨ad, cp, rfl, _⟩ := R
  have HALL : Hid (∀ w', Below (((w.alloc (.cells #[.int .i64 s, .int .i64 y, .int .i64 l, .slice ad n cp] 43)).alloc (.cells #[.int .i64 c.r, .int .i64 c.g, .int .i64 c.b, .int .i64 c.a] 25)).alloc (.cells #[.int .i64 0, .int .i64 0, .int .i64 0, .int .i64 0] 25)).heap.size (((w.alloc (.cells #[.int .i64 s, .int .i64 y, .int .i64 l, .slice ad n cp] 43)).alloc (.cells #[.int .i64 c.r, .int .i64 c.g, .int .i64 c.b, .int .i64 c.a] 25)).alloc (.cells #[.int .i64 0, .int .i64 0, .int .i64 0, .int .i64 0] 25)) w' → Hid (Below w.heap.size w w') ∧ C4 w' w.heap.size (.int .i64 s) (.int .i64 y) (.int .i64 l) (.slice ad n cp) ∧ C4 w' (w.heap.size + 1) (.int .i64 c.r) (.int .i64 c.g) (.int .i64 c.b) (.int .i64 c.a) ∧ C4 w' (w.heap.size + 1 + 1) (.int .i64 0) (.int .i64 0) (.int .i64 0) (.int .i64 0)) := fun w' b => ⟨(b3 (o1 := (.cells #[.int .i64 s, .int .i64 y, .int .i64 l, .slice ad n cp] 43)) (o2 := (.cells #[.int .i64 c.r, .int .i64 c.g, .int .i64 c.b, .int .i64 c.a] 25)) (o3 := (.cells #[.int .i64 0, .int .i64 0, .int .i64 0, .int .i64 0] 25))).trans (b.mono (b3 (o1 := (.cells #[.int .i64 s, .int .i64 y, .int .i64 l, .slice ad n cp] 43)) (o2 := (.cells #[.int .i64 c.r, .int .i64 c.g, .int .i64 c.b, .int .i64 c.a] 25)) (o3 := (.cells #[.int .i64 0, .int .i64 0, .int .i64 0, .int .i64 0] 25))).size), (((C4.new w 43 (.int .i64 s) (.int .i64 y) (.int .i64 l) (.slice ad n cp)).next (alloc_b (o := (.cells #[.int .i64 c.r, .int .i64 c.g, .int .i64 c.b, .int .i64 c.a] 25)))).next (alloc_b (o := (.cells #[.int .i64 0, .int .i64 0, .int .i64 0, .int .i64 0] 25)))).next b, by
    have h := ((C4.new (w.alloc (.cells #[.int .i64 s, .int .i64 y, .int .i64 l, .slice ad n cp] 43)) 25 (.int .i64 c.r) (.int .i64 c.g) (.int .i64 c.b) (.int .i64 c.a)).next (alloc_b (o := (.cells #[.int .i64 0, .int .i64 0, .int .i64 0, .int .i64 0] 25)))).next b
    rwa [World.size_alloc] at h, by
    have h := (C4.new ((w.alloc (.cells #[.int .i64 s, .int .i64 y, .int .i64 l, .slice ad n cp] 43)).alloc (.cells #[.int .i64 c.r, .int .i64 c.g, .int .i64 c.b, .int .i64 c.a] 25)) 25 (.int .i64 0) (.int .i64 0) (.int .i64 0) (.int .i64 0)).next b
    rwa [World.size_alloc, World.size_alloc] at h⟩
  have HB3 : Hid (Below w.heap.size w (((w.alloc (.cells #[.int .i64 s, .int .i64 y, .int .i64 l, .slice ad n cp] 43)).alloc (.cells #[.int .i64 c.r, .int .i64 c.g, .int .i64 c.b, .int .i64 c.a] 25)).alloc (.cells #[.int .i64 0, .int .i64 0, .int .i64 0, .int .i64 0] 25))) := b3
  unfold scC
  cases hb : fcB s y l n F k e c
  · rw [show scB s y l n F k su sv e c = false by unfold scB; rw [hb]; rfl, if_neg (by decide)]
    unfold colV zC
    have HN : Hid (∀ w', Below w.heap.size w w' → Calls Try.prog 63 #[.agg #[.int .i64 s, .int .i64 y, .int .i64 l, .slice ad n cp], .int .i64 k, .int .i64 e, .agg #[.int .i64 c.r, .int .i64 c.g, .int .i64 c.b, .int .i64 c.a]] w' fun e' w'' => e' = .returned (.tuple #[.agg #[.int .i64 0, .int .i64 0, .nilIface, .slice none 0 0, .int .i64 0, .int .i64 0, .int .i64 0, .int .i64 0, .int .i64 0], .bool false]) ∧ Below w'.heap.size w' w'') := fun w' b => pedged_no s y l _ n F k e c w' (HRR.out w' b) hn hfl hb
    clear hb HRR
    go_enter Try.func39, Try.ntmps39
    go_wp2_with (go_at_call 63; refine (HN.out _ HB3.out).mono ?_; rintro e9 w2 ⟨rfl, B2⟩; (obtain ⟨BXX, T2, K2, DX⟩ := HALL.out w2 B2); (have DY := DX.next (alloc_b (o := (.cells #[.int .i64 0, .int .i64 0, .nilIface, .slice none 0 0, .int .i64 0, .int .i64 0, .int .i64 0, .int .i64 0, .int .i64 0] 87)))); (have BY := BXX.out.alloc BXX.out.size (.cells #[.int .i64 0, .int .i64 0, .nilIface, .slice none 0 0, .int .i64 0, .int .i64 0, .int .i64 0, .int .i64 0, .int .i64 0] 87)); (have x0 := DY.c0); (have x1 := DY.c1); (have x2 := DY.c2); (have x3 := DY.c3); (have xf := DY.f))
    clear x0 x1 x2 x3 xf
    have D6 := DY.put (.int .i64 0) (.int .i64 0) (.int .i64 0) (.int .i64 0)
    have B06 : Below w.heap.size w (set4 (w2.alloc (.cells #[.int .i64 0, .int .i64 0, .nilIface, .slice none 0 0, .int .i64 0, .int .i64 0, .int .i64 0, .int .i64 0, .int .i64 0] 87)) (w.heap.size + 1 + 1) (.int .i64 0) (.int .i64 0) (.int .i64 0) (.int .i64 0)) := BY.trans ((only_set4 (w2.alloc (.cells #[.int .i64 0, .int .i64 0, .nilIface, .slice none 0 0, .int .i64 0, .int .i64 0, .int .i64 0, .int .i64 0, .int .i64 0] 87)) (w.heap.size + 1 + 1) _ _ _ _).below (by omega) BY.size)
    unfold set4 at D6 B06
    have r0 := D6.c0
    have r1 := D6.c1
    have r2 := D6.c2
    have r3 := D6.c3
    exact bodyPost_ret (v := .tuple #[.agg #[.int .i64 0, .int .i64 0, .int .i64 0, .int .i64 0], .bool false]) (by simp [results, Try.results39, go_sem, r0, r1, r2, r3]) rfl ⟨rfl, B06⟩
  obtain ⟨g1, g2, k0, k1⟩ := fc_iff hb
  obtain ⟨kk, rfl⟩ : ∃ kk : Nat, k = (kk : Int) := ⟨k.toNat, by omega⟩
  rw [show ((kk : Int)).toNat = kk by omega]
  have hkk : kk < n := by omega
  obtain ⟨gs1, gs2, hfb, hnl, hlen⟩ := (gt_iff s y l n F).1 g1
  have hf : l = 1 ∨ l = 2 ∨ l = 3 := by
    rcases fm_cases l with h | h | h | h
    · exact Or.inl h
    · exact Or.inr (Or.inl h)
    · exact Or.inr (Or.inr h)
    · rw [(fm_no h).2.1] at hfb; cases hfb
  have k5 : kk < 5 := by have := lcN_le s y; omega
  have HN : Hid (∀ w', Below w.heap.size w w' → Calls Try.prog 63 #[.agg #[.int .i64 s, .int .i64 y, .int .i64 l, .slice ad n cp], .int .i64 (kk : Int), .int .i64 e, .agg #[.int .i64 c.r, .int .i64 c.g, .int .i64 c.b, .int .i64 c.a]] w' fun e' w'' => ∃ u, e' = .returned (.tuple #[.agg #[.int .i64 (sdI s kk), .int .i64 (sdI y kk), fmV l, u, .int .i64 e, .int .i64 c.r, .int .i64 c.g, .int .i64 c.b, .int .i64 c.a], .bool true]) ∧ BRow w'' u (F kk) ∧ Below w'.heap.size w' w'') := fun w' b => pedged_ok s y l _ n kk F e c w' (HRR.out w' b) hn hfl g1 hkk g2
  cases hp : plB su && plB sv
  · rw [show scB s y l n F (kk : Int) su sv e c = false by unfold scB; rw [hb, hp]; rfl, if_neg (by decide)]
    rw [hp] at HG
    unfold colV zC
    generalize sdI s kk = A at HN
    generalize sdI y kk = B at HN
    obtain ⟨ft, hft⟩ := fmV_is hfb
    rw [hft] at HN
    clear hft hb hp g1 g2 HRR hlen gs1 gs2 hfb hnl hf bf
    go_enter Try.func39, Try.ntmps39
    go_wp2_with (first | (go_at_call 63; refine (HN.out _ HB3.out).mono ?_; rintro e9 w2 ⟨u, rfl, hu, B2⟩; (obtain ⟨ua, un, uc, rfl⟩ : ∃ a b c, u = .slice a b c := by obtain ⟨ad', c', h1, _⟩ := hu; exact ⟨_, _, _, h1⟩); (obtain ⟨BXX, T2, K2, DX⟩ := HALL.out w2 B2); (have DY := DX.next (alloc_b (o := (.cells #[.int .i64 A, .int .i64 B, .iface ft (.agg #[]), .slice ua un uc, .int .i64 e, .int .i64 c.r, .int .i64 c.g, .int .i64 c.b, .int .i64 c.a] 87)))); (have BY := BXX.out.alloc BXX.out.size (.cells #[.int .i64 A, .int .i64 B, .iface ft (.agg #[]), .slice ua un uc, .int .i64 e, .int .i64 c.r, .int .i64 c.g, .int .i64 c.b, .int .i64 c.a] 87)); (have x0 := DY.c0); (have x1 := DY.c1); (have x2 := DY.c2); (have x3 := DY.c3); (have xf := DY.f)) | (go_at_call 67; refine (HG.out _).mono ?_; rintro e9 w9 ⟨rfl, hw⟩; subst w9))
    clear x0 x1 x2 x3 xf
    have D6 := DY.put (.int .i64 0) (.int .i64 0) (.int .i64 0) (.int .i64 0)
    have B06 : Below w.heap.size w (set4 (w2.alloc (.cells #[.int .i64 A, .int .i64 B, .iface ft (.agg #[]), .slice ua un uc, .int .i64 e, .int .i64 c.r, .int .i64 c.g, .int .i64 c.b, .int .i64 c.a] 87)) (w.heap.size + 1 + 1) (.int .i64 0) (.int .i64 0) (.int .i64 0) (.int .i64 0)) := BY.trans ((only_set4 (w2.alloc (.cells #[.int .i64 A, .int .i64 B, .iface ft (.agg #[]), .slice ua un uc, .int .i64 e, .int .i64 c.r, .int .i64 c.g, .int .i64 c.b, .int .i64 c.a] 87)) (w.heap.size + 1 + 1) _ _ _ _).below (by omega) BY.size)
    unfold set4 at D6 B06
    have r0 := D6.c0
    have r1 := D6.c1
    have r2 := D6.c2
    have r3 := D6.c3
    exact bodyPost_ret (v := .tuple #[.agg #[.int .i64 0, .int .i64 0, .int .i64 0, .int .i64 0], .bool false]) (by simp [results, Try.results39, go_sem, r0, r1, r2, r3]) rfl ⟨rfl, B06⟩
  rw [show scB s y l n F (kk : Int) su sv e c = true by unfold scB; rw [hb, hp]; rfl, if_pos rfl]
  rw [hp] at HG
  simp only [Bool.and_eq_true] at hp
  have HF : Hid (∀ w' u, BRow w' u (F kk) → Calls Try.prog 68 #[.agg #[.int .i64 (sdI s kk), .int .i64 (sdI y kk), fmV l, u, .int .i64 e, .int .i64 c.r, .int .i64 c.g, .int .i64 c.b, .int .i64 c.a], .int .i64 su, .int .i64 sv] w' fun e' w'' => e' = .returned (colV (blC 4 (s4C l (sdI s kk) (sdI y kk) (F kk) su sv e c) (s4T su sv))) ∧ Below w'.heap.size w' w'') := fun w' u r => psample l (sdI s kk) (sdI y kk) u (F kk) su sv e c w' r hf (fun j hj => bf kk j hkk hj) (sdI_pos s kk) (sdI_le gs1 kk k5) (sdI_pos y kk) (sdI_le gs2 kk k5) (hlen kk hkk) (eg_iff g2) (pl_iff hp.1) (pl_iff hp.2) (hfl kk hkk) (fun i _ => s4_ok _ _ _ _ _ _ _ _ hf (fun j hj => bf kk j hkk hj) (sdI_pos _ _) (sdI_pos _ _) g2 i)
  unfold colV at HF ⊢
  generalize blC 4 (s4C l (sdI s kk) (sdI y kk) (F kk) su sv e c) (s4T su sv) = q at HF ⊢
  generalize sdI s kk = A at HN HF
  generalize sdI y kk = B at HN HF
  obtain ⟨ft, hft⟩ := fmV_is hfb
  rw [hft] at HN HF
  clear hft hb hp g1 g2 HRR hlen gs1 gs2 hfb hnl hf bf
  go_enter Try.func39, Try.ntmps39
  go_wp2_with (first | (go_at_call 63; refine (HN.out _ HB3.out).mono ?_; rintro e9 w2 ⟨u, rfl, hu, B2⟩; (obtain ⟨ua, un, uc, rfl⟩ : ∃ a b c, u = .slice a b c := by obtain ⟨ad', c', h1, _⟩ := hu; exact ⟨_, _, _, h1⟩); (obtain ⟨BXX, T2, K2, DX⟩ := HALL.out w2 B2); (have DY := DX.next (alloc_b (o := (.cells #[.int .i64 A, .int .i64 B, .iface ft (.agg #[]), .slice ua un uc, .int .i64 e, .int .i64 c.r, .int .i64 c.g, .int .i64 c.b, .int .i64 c.a] 87)))); (have BY := BXX.out.alloc BXX.out.size (.cells #[.int .i64 A, .int .i64 B, .iface ft (.agg #[]), .slice ua un uc, .int .i64 e, .int .i64 c.r, .int .i64 c.g, .int .i64 c.b, .int .i64 c.a] 87)); (have x0 := DY.c0); (have x1 := DY.c1); (have x2 := DY.c2); (have x3 := DY.c3); (have xf := DY.f)) | (go_at_call 67; refine (HG.out _).mono ?_; rintro e9 w9 ⟨rfl, hw⟩; subst w9) | (go_at_call 68; refine (HF.out _ _ (hu.next (alloc_b (o := (.cells #[.int .i64 A, .int .i64 B, .iface ft (.agg #[]), .slice ua un uc, .int .i64 e, .int .i64 c.r, .int .i64 c.g, .int .i64 c.b, .int .i64 c.a] 87))))).mono ?_; rintro e9 w3 ⟨rfl, B3⟩; (have DZ := DY.next B3); (have BZ := BY.trans (B3.mono BY.size)); (have z0 := DZ.c0); (have z1 := DZ.c1); (have z2 := DZ.c2); (have z3 := DZ.c3); (have zf := DZ.f)))
  clear x0 x1 x2 x3 xf z0 z1 z2 z3 zf
  have D6 := DZ.put (.int .i64 q.r) (.int .i64 q.g) (.int .i64 q.b) (.int .i64 q.a)
  have B06 : Below w.heap.size w (set4 w3 (w.heap.size + 1 + 1) (.int .i64 q.r) (.int .i64 q.g) (.int .i64 q.b) (.int .i64 q.a)) := BZ.trans ((only_set4 w3 (w.heap.size + 1 + 1) _ _ _ _).below (by omega) BZ.size)
  unfold set4 at D6 B06
  have r0 := D6.c0
  have r1 := D6.c1
  have r2 := D6.c2
  have r3 := D6.c3
  exact bodyPost_ret (v := .tuple #[.agg #[.int .i64 q.r, .int .i64 q.g, .int .i64 q.b, .int .i64 q.a], .bool true]) (by simp [results, Try.results39, go_sem, r0, r1, r2, r3]) rfl ⟨rfl, B06⟩
end Go.Proofs.Ythkngcdfnemhaaa
