/- SampleBetween of both sides. -/
import Derived.Test.YthkngcdfnemhaaaAr
import Derived.Deep.Cut
import Derived.Deep.DeepCutAuto
import Derived.Deep.CutBlock
namespace Go.Proofs.Ythkngcdfnemhaaa
open Go.ChangeShapes Go.WideShapes Go.ChangeAt Go.RowKit
set_option linter.unusedVariables false
theorem shr_any (yk : IntKind) (x y : Int) (h : 0 ≤ y) : Op.shift .shr .i64 x yk y = pure (.int .i64 (x / 2 ^ min y.toNat 64)) := by
  have hp : (0 : Int) ≤ 2 ^ min y.toNat 64 := Int.pow_nonneg (by decide)
  simp [Op.shift, IntKind.bits, Int.fdiv_eq_ediv_of_nonneg _ hp]
  omega
/-- A place at a level. -/
def shI (x k : Int) : Int := x / 2 ^ min k.toNat 64
theorem sh_small (x k : Int) (h0 : 0 ≤ k) (h1 : k ≤ 5) : x / 2 ^ k.toNat = shI x k := by
  unfold shI
  rw [show min k.toNat 64 = k.toNat by omega]
theorem sh_bnd (x k : Int) (h0 : 0 ≤ k) (h1 : k ≤ 5) (hx : -100000 ≤ x ∧ x ≤ 100000) : -100000 ≤ shI x k ∧ shI x k ≤ 100000 := by
  rw [← sh_small x k h0 h1]
  have h : k = 0 ∨ k = 1 ∨ k = 2 ∨ k = 3 ∨ k = 4 ∨ k = 5 := by omega
  rcases h with rfl | rfl | rfl | rfl | rfl | rfl
  · show -100000 ≤ x / 1 ∧ x / 1 ≤ 100000; omega
  · show -100000 ≤ x / 2 ∧ x / 2 ≤ 100000; omega
  · show -100000 ≤ x / 4 ∧ x / 4 ≤ 100000; omega
  · show -100000 ≤ x / 8 ∧ x / 8 ≤ 100000; omega
  · show -100000 ≤ x / 16 ∧ x / 16 ≤ 100000; omega
  · show -100000 ≤ x / 32 ∧ x / 32 ≤ 100000; omega
theorem pl_of {n : Int} (h : -100000 ≤ n ∧ n ≤ 100000) : plB n = true := by
  unfold plB
  rw [decide_eq_true h.1, decide_eq_true h.2]; rfl
theorem sm_le (f t : Nat → Int) (n : Nat) (hf : ∀ i, i < n → 0 ≤ f i ∧ f i ≤ 255) (ht : ∀ i, i < n → 0 ≤ t i ∧ t i ≤ 65536) : ∀ k, k ≤ n → 0 ≤ sm f t k ∧ sm f t k ≤ 255 * al t k
  | 0, _ => ⟨Int.le_refl _, by simp [sm, al]⟩
  | k + 1, h => by
    have h1 := sm_le f t n hf ht k (by omega)
    have h2 := hf k (by omega)
    have h3 := ht k (by omega)
    have h4 : 0 ≤ f k * t k := Int.mul_nonneg h2.1 h3.1
    have h5 : f k * t k ≤ 255 * t k := Int.mul_le_mul_of_nonneg_right h2.2 h3.1
    rw [sm, al]
    omega
theorem part_ok {S A : Int} (h0 : 0 ≤ S) (h1 : S ≤ 255 * A) (ha : 1 ≤ A) : 0 ≤ (S + A / 2) / A ∧ (S + A / 2) / A ≤ 255 := by
  refine ⟨Int.ediv_nonneg (by omega) (by omega), ?_⟩
  have h : (S + A / 2) / A < 256 := Int.ediv_lt_of_lt_mul (by omega) (by omega)
  omega
theorem bl_ok (n : Nat) (C : Nat → Col) (t : Nat → Int) (hC : ∀ i, i < n → (C i).ok) (ht : ∀ i, i < n → 0 ≤ t i ∧ t i ≤ 65536) (ha : 1 ≤ al t n) : (blC n C t).ok := by
  have hr := sm_le (fun i => (C i).r) t n (fun i hi => (hC i hi).1) ht n (Nat.le_refl _)
  have hg := sm_le (fun i => (C i).g) t n (fun i hi => (hC i hi).2.1) ht n (Nat.le_refl _)
  have hb := sm_le (fun i => (C i).b) t n (fun i hi => (hC i hi).2.2.1) ht n (Nat.le_refl _)
  have ha' := sm_le (fun i => (C i).a) t n (fun i hi => (hC i hi).2.2.2) ht n (Nat.le_refl _)
  exact ⟨part_ok hr.1 hr.2 ha, part_ok hg.1 hg.2 ha, part_ok hb.1 hb.2 ha, part_ok ha'.1 ha'.2 ha⟩
/-- The sample at a level. -/
def smC (s y l : Int) (F : Nat → List Int) (k : Nat) (su sv e : Int) (c : Col) : Col := blC 4 (s4C l (sdI s k) (sdI y k) (F k) su sv e c) (s4T su sv)
def t2C (a b : Col) (i : Nat) : Col := if i = 0 then a else b
def t2T (x y : Int) (i : Nat) : Int := if i = 0 then x else y
theorem t2_al (x y : Int) : al (t2T x y) 2 = x + y := by
  show 0 + x + y = x + y
  omega
theorem t2_bnd {x y : Int} (hx : 0 ≤ x ∧ x ≤ 65536) (hy : 0 ≤ y ∧ y ≤ 65536) (i : Nat) : 0 ≤ t2T x y i ∧ t2T x y i ≤ 65536 := by
  unfold t2T
  split
  · exact hx
  · exact hy
theorem t2_ok {a b : Col} (ha : a.ok) (hb : b.ok) (i : Nat) : (t2C a b i).ok := by
  unfold t2C
  split
  · exact ha
  · exact hb
/-- What SampleBetween takes. -/
def sbB (s y l : Int) (n : Nat) (F : Nat → List Int) (lod su sv e : Int) (c : Col) : Bool := (gtB s y l n F && egB e c.r c.g c.b c.a) && (decide (0 ≤ lod) && decide (lod ≤ 256 * ((n : Int) - 1)) && (plB su && plB sv))
/-- What SampleBetween answers. -/
def sbC (s y l : Int) (n : Nat) (F : Nat → List Int) (lod su sv e : Int) (c : Col) : Col := if sbB s y l n F lod su sv e c then (if lod % 256 = 0 then smC s y l F (lod / 256).toNat (shI su (lod / 256)) (shI sv (lod / 256)) e c else blC 2 (t2C (smC s y l F (lod / 256).toNat (shI su (lod / 256)) (shI sv (lod / 256)) e c) (smC s y l F (lod / 256 + 1).toNat (shI su (lod / 256 + 1)) (shI sv (lod / 256 + 1)) e c)) (t2T (256 - lod % 256) (lod % 256))) else zC
theorem sm_ok (s y l : Int) (n : Nat) (F : Nat → List Int) (k : Nat) (su sv e : Int) (c : Col) (hg : gtB s y l n F = true) (hk : k < n) (bf : ByF n F) (he : egB e c.r c.g c.b c.a = true) : (smC s y l F k su sv e c).ok := by
  obtain ⟨gs1, gs2, hfb, hnl, hlen⟩ := (gt_iff s y l n F).1 hg
  have hf : l = 1 ∨ l = 2 ∨ l = 3 := by
    rcases fm_cases l with h | h | h | h
    · exact Or.inl h
    · exact Or.inr (Or.inl h)
    · exact Or.inr (Or.inr h)
    · rw [(fm_no h).2.1] at hfb; cases hfb
  exact bl_ok 4 _ _ (fun i _ => s4_ok _ _ _ _ _ _ _ _ hf (fun j hj => bf k j hk hj) (sdI_pos _ _) (sdI_pos _ _) he i) (fun i _ => s4T_bnd su sv i) (by rw [s4T_al]; decide)
set_option maxRecDepth 100000 in
set_option maxHeartbeats 4000000 in
theorem mbet (s y l : Int) (v : Value) (n : Nat) (F : Nat → List Int) (lod su sv e : Int) (c : Col) (w : World) (R : BRows w v n F) (bf : ByF n F) (hn : n ≤ 1048576) (hfl : ∀ x, x < n → (F x).length ≤ 1048576) : Calls Try.prog 40 #[.agg #[.int .i64 s, .int .i64 y, .int .i64 l, v], .int .i64 lod, .int .i64 su, .int .i64 sv, .int .i64 e, colV c] w fun e' w' => e' = .returned (.tuple #[colV (sbC s y l n F lod su sv e c), .bool (sbB s y l n F lod su sv e c)]) ∧ Below w.heap.size w w' := by
  have HM : Hid (∀ w', Below w.heap.size w w' → Calls Try.prog 61 #[.agg #[.int .i64 s, .int .i64 y, .int .i64 l, v], .int .i64 e, .agg #[.int .i64 c.r, .int .i64 c.g, .int .i64 c.b, .int .i64 c.a]] w' fun x w'' => x = .returned (.bool (gtB s y l n F && egB e c.r c.g c.b c.a)) ∧ Below w'.heap.size w' w'') := fun w' b => margs s y l v n F e c.r c.g c.b c.a w' (R.next b) hn hfl
  have HU : Hid (∀ w, Calls Try.prog 65 #[.int .i64 su] w fun e w' => e = .returned (.bool (plB su)) ∧ w' = w) := fun w => mplace su w
  have HV : Hid (∀ w, Calls Try.prog 65 #[.int .i64 sv] w fun e w' => e = .returned (.bool (plB sv)) ∧ w' = w) := fun w => mplace sv w
  have HRR : Hid (∀ w', Below w.heap.size w w' → BRows w' v n F) := fun w' b => R.next b
  obtain ⟨ad, cp, rfl, _⟩ := R
  have HALL : Hid (∀ w', Below (((w.alloc (.cells #[.int .i64 s, .int .i64 y, .int .i64 l, .slice ad n cp] 43)).alloc (.cells #[.int .i64 c.r, .int .i64 c.g, .int .i64 c.b, .int .i64 c.a] 25)).alloc (.cells #[.int .i64 0, .int .i64 0, .int .i64 0, .int .i64 0] 25)).heap.size (((w.alloc (.cells #[.int .i64 s, .int .i64 y, .int .i64 l, .slice ad n cp] 43)).alloc (.cells #[.int .i64 c.r, .int .i64 c.g, .int .i64 c.b, .int .i64 c.a] 25)).alloc (.cells #[.int .i64 0, .int .i64 0, .int .i64 0, .int .i64 0] 25)) w' → Hid (Below w.heap.size w w') ∧ C4 w' w.heap.size (.int .i64 s) (.int .i64 y) (.int .i64 l) (.slice ad n cp) ∧ C4 w' (w.heap.size + 1) (.int .i64 c.r) (.int .i64 c.g) (.int .i64 c.b) (.int .i64 c.a) ∧ C4 w' (w.heap.size + 1 + 1) (.int .i64 0) (.int .i64 0) (.int .i64 0) (.int .i64 0)) := fun w' b => ⟨(b3 (o1 := (.cells #[.int .i64 s, .int .i64 y, .int .i64 l, .slice ad n cp] 43)) (o2 := (.cells #[.int .i64 c.r, .int .i64 c.g, .int .i64 c.b, .int .i64 c.a] 25)) (o3 := (.cells #[.int .i64 0, .int .i64 0, .int .i64 0, .int .i64 0] 25))).trans (b.mono (b3 (o1 := (.cells #[.int .i64 s, .int .i64 y, .int .i64 l, .slice ad n cp] 43)) (o2 := (.cells #[.int .i64 c.r, .int .i64 c.g, .int .i64 c.b, .int .i64 c.a] 25)) (o3 := (.cells #[.int .i64 0, .int .i64 0, .int .i64 0, .int .i64 0] 25))).size), (((C4.new w 43 (.int .i64 s) (.int .i64 y) (.int .i64 l) (.slice ad n cp)).next (alloc_b (o := (.cells #[.int .i64 c.r, .int .i64 c.g, .int .i64 c.b, .int .i64 c.a] 25)))).next (alloc_b (o := (.cells #[.int .i64 0, .int .i64 0, .int .i64 0, .int .i64 0] 25)))).next b, by
    have h := ((C4.new (w.alloc (.cells #[.int .i64 s, .int .i64 y, .int .i64 l, .slice ad n cp] 43)) 25 (.int .i64 c.r) (.int .i64 c.g) (.int .i64 c.b) (.int .i64 c.a)).next (alloc_b (o := (.cells #[.int .i64 0, .int .i64 0, .int .i64 0, .int .i64 0] 25)))).next b
    rwa [World.size_alloc] at h, by
    have h := (C4.new ((w.alloc (.cells #[.int .i64 s, .int .i64 y, .int .i64 l, .slice ad n cp] 43)).alloc (.cells #[.int .i64 c.r, .int .i64 c.g, .int .i64 c.b, .int .i64 c.a] 25)) 25 (.int .i64 0) (.int .i64 0) (.int .i64 0) (.int .i64 0)).next b
    rwa [World.size_alloc, World.size_alloc] at h⟩
  obtain ⟨BX0, T0, K0, D0⟩ := HALL.out _ (Below.refl _ _)
  obtain ⟨V0, hV0⟩ : ∃ z, (((w.alloc (.cells #[.int .i64 s, .int .i64 y, .int .i64 l, .slice ad n cp] 43)).alloc (.cells #[.int .i64 c.r, .int .i64 c.g, .int .i64 c.b, .int .i64 c.a] 25)).alloc (.cells #[.int .i64 0, .int .i64 0, .int .i64 0, .int .i64 0] 25)) = z := ⟨_, rfl⟩
  have HV0 := Hid.mk hV0
  have HAL : Hid (∀ w', Below V0.heap.size V0 w' → Hid (Below w.heap.size w w') ∧ C4 w' w.heap.size (.int .i64 s) (.int .i64 y) (.int .i64 l) (.slice ad n cp) ∧ C4 w' (w.heap.size + 1) (.int .i64 c.r) (.int .i64 c.g) (.int .i64 c.b) (.int .i64 c.a) ∧ C4 w' (w.heap.size + 1 + 1) (.int .i64 0) (.int .i64 0) (.int .i64 0) (.int .i64 0)) := fun w' b => by rw [← hV0] at b; exact HALL.out w' b
  rw [hV0] at BX0 T0 K0 D0
  clear hV0 HALL
  have BX0 := BX0.out
  have t0 := T0.c0
  have t1 := T0.c1
  have t2 := T0.c2
  have t3 := T0.c3
  have k0 := K0.c0
  have k1 := K0.c1
  have k2 := K0.c2
  have k3 := K0.c3
  have x0 := D0.c0
  have x1 := D0.c1
  have x2 := D0.c2
  have x3 := D0.c3
  have xf := D0.f
  unfold sbC
  have i1 : 256 * ((n : Int) - 1) ≤ 268435456 := by omega
  have i2 : -256 ≤ 256 * ((n : Int) - 1) := by omega
  have i3 : IntKind.i64.wrap ((n : Int) - 1) = (n : Int) - 1 := (IntKind.wrap_i64 _).trans (by omega)
  have i4 : IntKind.i64.wrap (256 * ((n : Int) - 1)) = 256 * ((n : Int) - 1) := (IntKind.wrap_i64 _).trans (by omega)
  cases hg : (gtB s y l n F && egB e c.r c.g c.b c.a)
  · rw [show sbB s y l n F lod su sv e c = false by unfold sbB; rw [hg]; rfl, if_neg (by decide)]
    rw [hg] at HM
    unfold colV zC
    clear hg
    go_enter Try.func40, Try.ntmps40
    go_upto_region 1 with fail
    rw [HV0.out]
    clear HV0
    go_wp2_with (go_at_call 61; refine (HM.out _ BX0).mono ?_; rintro e9 w2 ⟨rfl, B2⟩; (have T2 := T0.next B2); (have K2 := K0.next B2); (have D2 := D0.next B2); (have BX2 := BX0.trans (B2.mono BX0.size)); (have t0 := T2.c0); (have t1 := T2.c1); (have t2 := T2.c2); (have t3 := T2.c3); (have tf := T2.f); (have k0 := K2.c0); (have k1 := K2.c1); (have k2 := K2.c2); (have k3 := K2.c3); (have kf := K2.f); (have x0 := D2.c0); (have x1 := D2.c1); (have x2 := D2.c2); (have x3 := D2.c3); (have xf := D2.f))
    clear x0 x1 x2 x3 xf
    have D6 := D2.put (.int .i64 0) (.int .i64 0) (.int .i64 0) (.int .i64 0)
    have B06 : Below w.heap.size w (set4 w2 (w.heap.size + 1 + 1) (.int .i64 0) (.int .i64 0) (.int .i64 0) (.int .i64 0)) := BX2.trans ((only_set4 w2 (w.heap.size + 1 + 1) _ _ _ _).below (by omega) BX2.size)
    unfold set4 at D6 B06
    have r0 := D6.c0
    have r1 := D6.c1
    have r2 := D6.c2
    have r3 := D6.c3
    exact bodyPost_ret (v := .tuple #[.agg #[.int .i64 0, .int .i64 0, .int .i64 0, .int .i64 0], .bool false]) (by simp [results, Try.results40, go_sem, r0, r1, r2, r3]) rfl ⟨rfl, B06⟩
  rw [hg] at HM
  by_cases l0 : lod < 0
  · rw [show sbB s y l n F lod su sv e c = false by unfold sbB; rw [decide_eq_false (by omega : ¬ 0 ≤ lod)]; simp, if_neg (by decide)]
    unfold colV zC
    clear hg
    go_enter Try.func40, Try.ntmps40
    go_upto_region 1 with fail
    rw [HV0.out]
    clear HV0
    go_wp2_with (go_at_call 61; refine (HM.out _ BX0).mono ?_; rintro e9 w2 ⟨rfl, B2⟩; (have T2 := T0.next B2); (have K2 := K0.next B2); (have D2 := D0.next B2); (have BX2 := BX0.trans (B2.mono BX0.size)); (have t0 := T2.c0); (have t1 := T2.c1); (have t2 := T2.c2); (have t3 := T2.c3); (have tf := T2.f); (have k0 := K2.c0); (have k1 := K2.c1); (have k2 := K2.c2); (have k3 := K2.c3); (have kf := K2.f); (have x0 := D2.c0); (have x1 := D2.c1); (have x2 := D2.c2); (have x3 := D2.c3); (have xf := D2.f))
    clear x0 x1 x2 x3 xf
    have D6 := D2.put (.int .i64 0) (.int .i64 0) (.int .i64 0) (.int .i64 0)
    have B06 : Below w.heap.size w (set4 w2 (w.heap.size + 1 + 1) (.int .i64 0) (.int .i64 0) (.int .i64 0) (.int .i64 0)) := BX2.trans ((only_set4 w2 (w.heap.size + 1 + 1) _ _ _ _).below (by omega) BX2.size)
    unfold set4 at D6 B06
    have r0 := D6.c0
    have r1 := D6.c1
    have r2 := D6.c2
    have r3 := D6.c3
    exact bodyPost_ret (v := .tuple #[.agg #[.int .i64 0, .int .i64 0, .int .i64 0, .int .i64 0], .bool false]) (by simp [results, Try.results40, go_sem, r0, r1, r2, r3]) rfl ⟨rfl, B06⟩
  by_cases l1 : lod ≤ 256 * ((n : Int) - 1)
  case neg =>
    rw [show sbB s y l n F lod su sv e c = false by unfold sbB; rw [decide_eq_false l1]; simp, if_neg (by decide)]
    unfold colV zC
    have l2 : 256 * ((n : Int) - 1) < lod := by omega
    clear hg l1
    go_enter Try.func40, Try.ntmps40
    go_upto_region 1 with fail
    rw [HV0.out]
    clear HV0
    go_wp2_with (go_at_call 61; refine (HM.out _ BX0).mono ?_; rintro e9 w2 ⟨rfl, B2⟩; (have T2 := T0.next B2); (have K2 := K0.next B2); (have D2 := D0.next B2); (have BX2 := BX0.trans (B2.mono BX0.size)); (have t0 := T2.c0); (have t1 := T2.c1); (have t2 := T2.c2); (have t3 := T2.c3); (have tf := T2.f); (have k0 := K2.c0); (have k1 := K2.c1); (have k2 := K2.c2); (have k3 := K2.c3); (have kf := K2.f); (have x0 := D2.c0); (have x1 := D2.c1); (have x2 := D2.c2); (have x3 := D2.c3); (have xf := D2.f))
    clear x0 x1 x2 x3 xf
    have D6 := D2.put (.int .i64 0) (.int .i64 0) (.int .i64 0) (.int .i64 0)
    have B06 : Below w.heap.size w (set4 w2 (w.heap.size + 1 + 1) (.int .i64 0) (.int .i64 0) (.int .i64 0) (.int .i64 0)) := BX2.trans ((only_set4 w2 (w.heap.size + 1 + 1) _ _ _ _).below (by omega) BX2.size)
    unfold set4 at D6 B06
    have r0 := D6.c0
    have r1 := D6.c1
    have r2 := D6.c2
    have r3 := D6.c3
    exact bodyPost_ret (v := .tuple #[.agg #[.int .i64 0, .int .i64 0, .int .i64 0, .int .i64 0], .bool false]) (by simp [results, Try.results40, go_sem, r0, r1, r2, r3]) rfl ⟨rfl, B06⟩
  have l2 : ¬ 256 * ((n : Int) - 1) < lod := by omega
  cases hu : plB su
  · rw [show sbB s y l n F lod su sv e c = false by unfold sbB; rw [hu]; simp, if_neg (by decide)]
    rw [hu] at HU
    unfold colV zC
    clear hg l1 hu
    go_enter Try.func40, Try.ntmps40
    go_upto_region 1 with fail
    rw [HV0.out]
    clear HV0
    go_wp2_with (first | (go_at_call 61; refine (HM.out _ BX0).mono ?_; rintro e9 w2 ⟨rfl, B2⟩; (have T2 := T0.next B2); (have K2 := K0.next B2); (have D2 := D0.next B2); (have BX2 := BX0.trans (B2.mono BX0.size)); (have t0 := T2.c0); (have t1 := T2.c1); (have t2 := T2.c2); (have t3 := T2.c3); (have tf := T2.f); (have k0 := K2.c0); (have k1 := K2.c1); (have k2 := K2.c2); (have k3 := K2.c3); (have kf := K2.f); (have x0 := D2.c0); (have x1 := D2.c1); (have x2 := D2.c2); (have x3 := D2.c3); (have xf := D2.f)) | (go_at_call 65; (with_reducible show Calls Try.prog 65 #[.int .i64 su] _ _); refine (HU.out _).mono ?_; rintro e9 w9 ⟨rfl, hw⟩; subst w9) | (go_at_call 65; (with_reducible show Calls Try.prog 65 #[.int .i64 sv] _ _); refine (HV.out _).mono ?_; rintro e9 w9 ⟨rfl, hw⟩; subst w9))
    clear x0 x1 x2 x3 xf
    have D6 := D2.put (.int .i64 0) (.int .i64 0) (.int .i64 0) (.int .i64 0)
    have B06 : Below w.heap.size w (set4 w2 (w.heap.size + 1 + 1) (.int .i64 0) (.int .i64 0) (.int .i64 0) (.int .i64 0)) := BX2.trans ((only_set4 w2 (w.heap.size + 1 + 1) _ _ _ _).below (by omega) BX2.size)
    unfold set4 at D6 B06
    have r0 := D6.c0
    have r1 := D6.c1
    have r2 := D6.c2
    have r3 := D6.c3
    exact bodyPost_ret (v := .tuple #[.agg #[.int .i64 0, .int .i64 0, .int .i64 0, .int .i64 0], .bool false]) (by simp [results, Try.results40, go_sem, r0, r1, r2, r3]) rfl ⟨rfl, B06⟩
  rw [hu] at HU
  cases hv : plB sv
  · rw [show sbB s y l n F lod su sv e c = false by unfold sbB; rw [hv]; simp, if_neg (by decide)]
    rw [hv] at HV
    unfold colV zC
    clear hg l1 hu hv
    go_enter Try.func40, Try.ntmps40
    go_upto_region 1 with fail
    rw [HV0.out]
    clear HV0
    go_wp2_with (first | (go_at_call 61; refine (HM.out _ BX0).mono ?_; rintro e9 w2 ⟨rfl, B2⟩; (have T2 := T0.next B2); (have K2 := K0.next B2); (have D2 := D0.next B2); (have BX2 := BX0.trans (B2.mono BX0.size)); (have t0 := T2.c0); (have t1 := T2.c1); (have t2 := T2.c2); (have t3 := T2.c3); (have tf := T2.f); (have k0 := K2.c0); (have k1 := K2.c1); (have k2 := K2.c2); (have k3 := K2.c3); (have kf := K2.f); (have x0 := D2.c0); (have x1 := D2.c1); (have x2 := D2.c2); (have x3 := D2.c3); (have xf := D2.f)) | (go_at_call 65; (with_reducible show Calls Try.prog 65 #[.int .i64 su] _ _); refine (HU.out _).mono ?_; rintro e9 w9 ⟨rfl, hw⟩; subst w9) | (go_at_call 65; (with_reducible show Calls Try.prog 65 #[.int .i64 sv] _ _); refine (HV.out _).mono ?_; rintro e9 w9 ⟨rfl, hw⟩; subst w9))
    clear x0 x1 x2 x3 xf
    have D6 := D2.put (.int .i64 0) (.int .i64 0) (.int .i64 0) (.int .i64 0)
    have B06 : Below w.heap.size w (set4 w2 (w.heap.size + 1 + 1) (.int .i64 0) (.int .i64 0) (.int .i64 0) (.int .i64 0)) := BX2.trans ((only_set4 w2 (w.heap.size + 1 + 1) _ _ _ _).below (by omega) BX2.size)
    unfold set4 at D6 B06
    have r0 := D6.c0
    have r1 := D6.c1
    have r2 := D6.c2
    have r3 := D6.c3
    exact bodyPost_ret (v := .tuple #[.agg #[.int .i64 0, .int .i64 0, .int .i64 0, .int .i64 0], .bool false]) (by simp [results, Try.results40, go_sem, r0, r1, r2, r3]) rfl ⟨rfl, B06⟩
  rw [hv] at HV
  rw [show sbB s y l n F lod su sv e c = true by unfold sbB; rw [hg, hu, hv, decide_eq_true (by omega : 0 ≤ lod), decide_eq_true l1]; rfl, if_pos rfl]
  have hg2 := hg
  simp only [Bool.and_eq_true] at hg2
  obtain ⟨g1, g2⟩ := hg2
  have n5 : n ≤ 5 := by obtain ⟨gs1, gs2, hfb, hnl, hlen⟩ := (gt_iff s y l n F).1 g1; have := lcN_le s y; omega
  have htd : lod.tdiv 256 = lod / 256 := Int.tdiv_eq_ediv_of_nonneg (by omega)
  have htm : lod.tmod 256 = lod % 256 := Int.tmod_eq_emod_of_nonneg (by omega)
  obtain ⟨K, hK⟩ : ∃ z, lod / 256 = z := ⟨_, rfl⟩
  obtain ⟨r, hr⟩ : ∃ z, lod % 256 = z := ⟨_, rfl⟩
  obtain ⟨K1, hK1⟩ : ∃ z, K + 1 = z := ⟨_, rfl⟩
  have k0 : 0 ≤ K := by omega
  have k1 : K < n := by omega
  have k4 : K ≤ 4 := by omega
  have r0 : 0 ≤ r := by omega
  have r1 : r ≤ 255 := by omega
  have HKR : Hid (¬ r = 0 → K1 < n) := fun h => by omega
  rw [hK, hr, hK1]
  rw [hK] at htd
  rw [hr] at htm
  clear hK hr
  have hlod : I64 lod := ⟨by omega, by omega⟩
  have HOK : Hid (∀ (k : Nat) (u' v' : Int), k < n → (smC s y l F k u' v' e c).ok) := fun k u' v' hk => sm_ok s y l n F k u' v' e c g1 hk bf g2
  have HS : Hid (∀ k : Int, 0 ≤ k → k < n → k ≤ 5 → ∀ w', Below w.heap.size w w' → Calls Try.prog 66 #[.agg #[.int .i64 s, .int .i64 y, .int .i64 l, .slice ad n cp], .int .i64 k, .int .i64 (shI su k), .int .i64 (shI sv k), .int .i64 e, .agg #[.int .i64 c.r, .int .i64 c.g, .int .i64 c.b, .int .i64 c.a]] w' fun e' w'' => e' = .returned (colV (smC s y l F (k).toNat (shI su k) (shI sv k) e c)) ∧ Below w'.heap.size w' w'') := fun k h0 h1 h5 w' b => by
    have h := msmp s y l _ n k.toNat F (shI su k) (shI sv k) e c w' (HRR.out w' b) g1 (by omega) bf g2 (sh_bnd su k h0 h5 (pl_iff hu)) (sh_bnd sv k h0 h5 (pl_iff hv)) hn hfl
    rwa [show ((k.toNat : Nat) : Int) = k by omega] at h
  have HS1 := Hid.mk (HS.out K k0 k1 (by omega))
  have hsu := sh_small su K k0 (by omega)
  have hsv := sh_small sv K k0 (by omega)
  have q1k := HOK.out K.toNat (shI su K) (shI sv K) (by omega)
  have HQ1 := Hid.mk q1k
  have HS2 : Hid (¬ r = 0 → Hid (∀ w', Below w.heap.size w w' → Calls Try.prog 66 #[.agg #[.int .i64 s, .int .i64 y, .int .i64 l, .slice ad n cp], .int .i64 K1, .int .i64 (shI su K1), .int .i64 (shI sv K1), .int .i64 e, .agg #[.int .i64 c.r, .int .i64 c.g, .int .i64 c.b, .int .i64 c.a]] w' fun e' w'' => e' = .returned (colV (smC s y l F (K1).toNat (shI su K1) (shI sv K1) e c)) ∧ Below w'.heap.size w' w'') ∧ Hid ((smC s y l F (K1).toNat (shI su K1) (shI sv K1) e c).ok)) := fun h => ⟨HS.out K1 (by omega) (HKR.out h) (by omega), HOK.out K1.toNat _ _ (by have := HKR.out h; omega)⟩
  have hsu1 := sh_small su K1 (by omega) (by omega)
  have hsv1 := sh_small sv K1 (by omega) (by omega)
  have hk1w : IntKind.i64.wrap (K + 1) = K1 := (IntKind.wrap_i64 _).trans (by omega)
  have hku : IntKind.u64.wrap K = K := (IntKind.wrap_u64 _).trans (by omega)
  have hku1 : IntKind.u64.wrap K1 = K1 := (IntKind.wrap_u64 _).trans (by omega)
  have hkw : IntKind.i64.wrap K = K := (IntKind.wrap_i64 _).trans (by omega)
  have k10 : 0 ≤ K1 := by omega
  have k15 : K1 ≤ 5 := by omega
  unfold colV at HS1 HS2 ⊢
  generalize smC s y l F (K).toNat (shI su K) (shI sv K) e c = q1 at HS1 HQ1 ⊢
  generalize smC s y l F (K1).toNat (shI su K1) (shI sv K1) e c = q2 at HS2 ⊢
  generalize shI su K = U at HS1 hsu
  generalize shI sv K = V at HS1 hsv
  generalize shI su K1 = U1 at HS2 hsu1
  generalize shI sv K1 = V1 at HS2 hsv1
  clear hg hu hv l1 g1 g2 HOK HS q1k HRR bf hfl
  by_cases hr0 : r = 0
  · rw [if_pos hr0]
    go_enter Try.func40, Try.ntmps40
    go_upto_region 1 with fail
    rw [HV0.out]
    clear HV0
    go_upto_region 6 with (first | (go_at_call 61; refine (HM.out _ BX0).mono ?_; rintro e9 w2 ⟨rfl, B2⟩; (have T2 := T0.next B2); (have K2 := K0.next B2); (have D2 := D0.next B2); (have BX2 := BX0.trans (B2.mono BX0.size)); (have t0 := T2.c0); (have t1 := T2.c1); (have t2 := T2.c2); (have t3 := T2.c3); (have tf := T2.f); (have k0 := K2.c0); (have k1 := K2.c1); (have k2 := K2.c2); (have k3 := K2.c3); (have kf := K2.f); (have x0 := D2.c0); (have x1 := D2.c1); (have x2 := D2.c2); (have x3 := D2.c3); (have xf := D2.f)) | (go_at_call 65; (with_reducible show Calls Try.prog 65 #[.int .i64 su] _ _); refine (HU.out _).mono ?_; rintro e9 w9 ⟨rfl, hw⟩; subst w9) | (go_at_call 65; (with_reducible show Calls Try.prog 65 #[.int .i64 sv] _ _); refine (HV.out _).mono ?_; rintro e9 w9 ⟨rfl, hw⟩; subst w9) | (go_at_call 66; (with_reducible show Calls Try.prog 66 #[_, .int .i64 K, _, _, _, _] _ _); refine (HS1.out _ BX2).mono ?_; rintro e9 w3 ⟨rfl, B3⟩; (have T3 := T2.next B3); (have K3 := K2.next B3); (have D3 := D2.next B3); (have BX3 := BX2.trans (B3.mono BX2.size))))
    have N6 := C4.new w3 25 (.int .i64 q1.r) (.int .i64 q1.g) (.int .i64 q1.b) (.int .i64 q1.a)
    have T6 := T3.next (alloc_b (o := (.cells #[.int .i64 q1.r, .int .i64 q1.g, .int .i64 q1.b, .int .i64 q1.a] 25)))
    have K6 := K3.next (alloc_b (o := (.cells #[.int .i64 q1.r, .int .i64 q1.g, .int .i64 q1.b, .int .i64 q1.a] 25)))
    have D6 := D3.next (alloc_b (o := (.cells #[.int .i64 q1.r, .int .i64 q1.g, .int .i64 q1.b, .int .i64 q1.a] 25)))
    have BX6 := BX3.alloc BX3.size (.cells #[.int .i64 q1.r, .int .i64 q1.g, .int .i64 q1.b, .int .i64 q1.a] 25)
    have nh6 : w.heap.size ≤ w3.heap.size := BX3.size
    obtain ⟨nb, hnb⟩ : ∃ z, w3.heap.size = z := ⟨_, rfl⟩
    rw [hnb] at N6 nh6 ⊢
    generalize w3.alloc (.cells #[.int .i64 q1.r, .int .i64 q1.g, .int .i64 q1.b, .int .i64 q1.a] 25) = w6 at N6 T6 K6 D6 BX6 ⊢
    clear hnb
    clear t0 k0 x0 t1 k1 x1 t2 k2 x2 t3 k3 x3
    have t0 := T6.c0
    have t1 := T6.c1
    have t2 := T6.c2
    have t3 := T6.c3
    have k0 := K6.c0
    have k1 := K6.c1
    have k2 := K6.c2
    have k3 := K6.c3
    have x0 := D6.c0
    have x1 := D6.c1
    have x2 := D6.c2
    have x3 := D6.c3
    have xf := D6.f
    have y0 := N6.c0
    have y1 := N6.c1
    have y2 := N6.c2
    have y3 := N6.c3
    go_wp2
    clear x0 x1 x2 x3 xf
    have D9 := D6.put (.int .i64 q1.r) (.int .i64 q1.g) (.int .i64 q1.b) (.int .i64 q1.a)
    have B06 : Below w.heap.size w (set4 w6 (w.heap.size + 1 + 1) (.int .i64 q1.r) (.int .i64 q1.g) (.int .i64 q1.b) (.int .i64 q1.a)) := BX6.trans ((only_set4 w6 (w.heap.size + 1 + 1) _ _ _ _).below (by omega) BX6.size)
    unfold set4 at D9 B06
    have r0 := D9.c0
    have r1 := D9.c1
    have r2 := D9.c2
    have r3 := D9.c3
    exact bodyPost_ret (v := .tuple #[.agg #[.int .i64 q1.r, .int .i64 q1.g, .int .i64 q1.b, .int .i64 q1.a], .bool true]) (by simp [results, Try.results40, go_sem, r0, r1, r2, r3]) rfl ⟨rfl, B06⟩
  rw [if_neg hr0]
  obtain ⟨HS2, HQ2⟩ := HS2.out hr0
  obtain ⟨QQ, hQQ⟩ : ∃ z, blC 2 (t2C q1 q2) (t2T (256 - r) r) = z := ⟨_, rfl⟩
  rw [hQQ]
  have HSM : Hid (∀ w' v1 v2, CRow w' v1 2 (t2C q1 q2) → NRw w' v2 2 (t2T (256 - r) r) → Calls Try.prog 69 #[v1, v2, .int .i64 128, .int .i64 256] w' fun e w'' => e = .returned (colV QQ) ∧ Below w'.heap.size w' w'') := fun w' v1 v2 R1 R2 => by
    have h := msum 2 (t2C q1 q2) (t2T (256 - r) r) 128 256 v1 v2 w' R1 R2 (by decide) (fun i _ => t2_ok HQ1.out HQ2.out i) (fun i _ => t2_bnd ⟨by omega, by omega⟩ ⟨by omega, by omega⟩ i) (by decide) (by decide)
    rwa [su_bl 2 _ _ _ _ (by rw [t2_al]; omega) (by decide), hQQ] at h
  unfold colV at HSM
  have hwr : IntKind.i64.wrap (256 - r) = 256 - r := (IntKind.wrap_i64 _).trans (by omega)
  clear hQQ HQ1 HQ2
  go_enter Try.func40, Try.ntmps40
  go_upto_region 1 with fail
  rw [HV0.out]
  clear HV0
  go_upto_region 6 with (first | (go_at_call 61; refine (HM.out _ BX0).mono ?_; rintro e9 w2 ⟨rfl, B2⟩; (have T2 := T0.next B2); (have K2 := K0.next B2); (have D2 := D0.next B2); (have BX2 := BX0.trans (B2.mono BX0.size)); (have t0 := T2.c0); (have t1 := T2.c1); (have t2 := T2.c2); (have t3 := T2.c3); (have tf := T2.f); (have k0 := K2.c0); (have k1 := K2.c1); (have k2 := K2.c2); (have k3 := K2.c3); (have kf := K2.f); (have x0 := D2.c0); (have x1 := D2.c1); (have x2 := D2.c2); (have x3 := D2.c3); (have xf := D2.f)) | (go_at_call 65; (with_reducible show Calls Try.prog 65 #[.int .i64 su] _ _); refine (HU.out _).mono ?_; rintro e9 w9 ⟨rfl, hw⟩; subst w9) | (go_at_call 65; (with_reducible show Calls Try.prog 65 #[.int .i64 sv] _ _); refine (HV.out _).mono ?_; rintro e9 w9 ⟨rfl, hw⟩; subst w9) | (go_at_call 66; (with_reducible show Calls Try.prog 66 #[_, .int .i64 K, _, _, _, _] _ _); refine (HS1.out _ BX2).mono ?_; rintro e9 w3 ⟨rfl, B3⟩; (have T3 := T2.next B3); (have K3 := K2.next B3); (have D3 := D2.next B3); (have BX3 := BX2.trans (B3.mono BX2.size))))
  have N6 := C4.new w3 25 (.int .i64 q1.r) (.int .i64 q1.g) (.int .i64 q1.b) (.int .i64 q1.a)
  have T6 := T3.next (alloc_b (o := (.cells #[.int .i64 q1.r, .int .i64 q1.g, .int .i64 q1.b, .int .i64 q1.a] 25)))
  have K6 := K3.next (alloc_b (o := (.cells #[.int .i64 q1.r, .int .i64 q1.g, .int .i64 q1.b, .int .i64 q1.a] 25)))
  have D6 := D3.next (alloc_b (o := (.cells #[.int .i64 q1.r, .int .i64 q1.g, .int .i64 q1.b, .int .i64 q1.a] 25)))
  have BX6 := BX3.alloc BX3.size (.cells #[.int .i64 q1.r, .int .i64 q1.g, .int .i64 q1.b, .int .i64 q1.a] 25)
  have nh6 : w.heap.size ≤ w3.heap.size := BX3.size
  obtain ⟨nb, hnb⟩ : ∃ z, w3.heap.size = z := ⟨_, rfl⟩
  rw [hnb] at N6 nh6 ⊢
  generalize w3.alloc (.cells #[.int .i64 q1.r, .int .i64 q1.g, .int .i64 q1.b, .int .i64 q1.a] 25) = w6 at N6 T6 K6 D6 BX6 ⊢
  clear hnb
  clear t0 k0 x0 t1 k1 x1 t2 k2 x2 t3 k3 x3
  have t0 := T6.c0
  have t1 := T6.c1
  have t2 := T6.c2
  have t3 := T6.c3
  have k0 := K6.c0
  have k1 := K6.c1
  have k2 := K6.c2
  have k3 := K6.c3
  have x0 := D6.c0
  have x1 := D6.c1
  have x2 := D6.c2
  have x3 := D6.c3
  have xf := D6.f
  have y0 := N6.c0
  have y1 := N6.c1
  have y2 := N6.c2
  have y3 := N6.c3
  go_upto_region 9 with (go_at_call 66; (with_reducible show Calls Try.prog 66 #[_, .int .i64 K1, _, _, _, _] _ _); refine (HS2.out _ BX6).mono ?_; rintro e9 w7 ⟨rfl, B7⟩; (have T7 := T6.next B7); (have K7 := K6.next B7); (have D7 := D6.next B7); (have BX7 := BX6.trans (B7.mono BX6.size)); (have N7 := N6.next B7))
  have M8 := C4.new w7 25 (.int .i64 q2.r) (.int .i64 q2.g) (.int .i64 q2.b) (.int .i64 q2.a)
  have T8 := T7.next (alloc_b (o := (.cells #[.int .i64 q2.r, .int .i64 q2.g, .int .i64 q2.b, .int .i64 q2.a] 25)))
  have K8 := K7.next (alloc_b (o := (.cells #[.int .i64 q2.r, .int .i64 q2.g, .int .i64 q2.b, .int .i64 q2.a] 25)))
  have D8 := D7.next (alloc_b (o := (.cells #[.int .i64 q2.r, .int .i64 q2.g, .int .i64 q2.b, .int .i64 q2.a] 25)))
  have N8 := N7.next (alloc_b (o := (.cells #[.int .i64 q2.r, .int .i64 q2.g, .int .i64 q2.b, .int .i64 q2.a] 25)))
  have BX8 := BX7.alloc BX7.size (.cells #[.int .i64 q2.r, .int .i64 q2.g, .int .i64 q2.b, .int .i64 q2.a] 25)
  have nh8 : w.heap.size ≤ w7.heap.size := BX7.size
  obtain ⟨fb, hfb⟩ : ∃ z, w7.heap.size = z := ⟨_, rfl⟩
  rw [hfb] at M8 nh8 ⊢
  generalize w7.alloc (.cells #[.int .i64 q2.r, .int .i64 q2.g, .int .i64 q2.b, .int .i64 q2.a] 25) = w8 at M8 T8 K8 D8 N8 BX8 ⊢
  clear hfb
  clear t0 k0 x0 y0 t1 k1 x1 y1 t2 k2 x2 y2 t3 k3 x3 y3 xf
  have y0 := N8.c0
  have y1 := N8.c1
  have y2 := N8.c2
  have y3 := N8.c3
  have z0 := M8.c0
  have z1 := M8.c1
  have z2 := M8.c2
  have z3 := M8.c3
  clear T8 K8 T6 K6 T2 K2 T0 K0 N6
  go_wp2_with (go_at_call 69; refine (HSM.out _ _ _ ⟨_, 0, _, rfl, fun i hi => by rcases (show i = 0 ∨ i = 1 by omega) with rfl | rfl <;> exact ⟨by simp [t2C], by simp [t2C], by simp [t2C], by simp [t2C]⟩⟩ ⟨_, 0, _, rfl, fun i hi => by rcases (show i = 0 ∨ i = 1 by omega) with rfl | rfl <;> exact by simp [t2T]⟩).mono ?_; rintro e9 w9 ⟨rfl, B9⟩; (have D9 := ((D8.next (alloc_b (o := (.cells #[.int .i64 q1.r, .int .i64 q1.g, .int .i64 q1.b, .int .i64 q1.a, .int .i64 q2.r, .int .i64 q2.g, .int .i64 q2.b, .int .i64 q2.a] 25)))).next (alloc_b (o := (.cells #[.int .i64 (256 - r), .int .i64 r] 3)))).next B9); (have BX9 := ((BX8.alloc BX8.size (.cells #[.int .i64 q1.r, .int .i64 q1.g, .int .i64 q1.b, .int .i64 q1.a, .int .i64 q2.r, .int .i64 q2.g, .int .i64 q2.b, .int .i64 q2.a] 25)).alloc (BX8.alloc BX8.size (.cells #[.int .i64 q1.r, .int .i64 q1.g, .int .i64 q1.b, .int .i64 q1.a, .int .i64 q2.r, .int .i64 q2.g, .int .i64 q2.b, .int .i64 q2.a] 25)).size (.cells #[.int .i64 (256 - r), .int .i64 r] 3)).trans (B9.mono ((BX8.alloc BX8.size (.cells #[.int .i64 q1.r, .int .i64 q1.g, .int .i64 q1.b, .int .i64 q1.a, .int .i64 q2.r, .int .i64 q2.g, .int .i64 q2.b, .int .i64 q2.a] 25)).alloc (BX8.alloc BX8.size (.cells #[.int .i64 q1.r, .int .i64 q1.g, .int .i64 q1.b, .int .i64 q1.a, .int .i64 q2.r, .int .i64 q2.g, .int .i64 q2.b, .int .i64 q2.a] 25)).size (.cells #[.int .i64 (256 - r), .int .i64 r] 3)).size)); (have x0 := D9.c0); (have x1 := D9.c1); (have x2 := D9.c2); (have x3 := D9.c3); (have xf := D9.f))
  clear x0 x1 x2 x3 xf
  have D6 := D9.put (.int .i64 QQ.r) (.int .i64 QQ.g) (.int .i64 QQ.b) (.int .i64 QQ.a)
  have B06 : Below w.heap.size w (set4 w9 (w.heap.size + 1 + 1) (.int .i64 QQ.r) (.int .i64 QQ.g) (.int .i64 QQ.b) (.int .i64 QQ.a)) := BX9.trans ((only_set4 w9 (w.heap.size + 1 + 1) _ _ _ _).below (by omega) BX9.size)
  unfold set4 at D6 B06
  have r0 := D6.c0
  have r1 := D6.c1
  have r2 := D6.c2
  have r3 := D6.c3
  exact bodyPost_ret (v := .tuple #[.agg #[.int .i64 QQ.r, .int .i64 QQ.g, .int .i64 QQ.b, .int .i64 QQ.a], .bool true]) (by simp [results, Try.results40, go_sem, r0, r1, r2, r3]) rfl ⟨rfl, B06⟩
theorem psplit2 (a : Int) (w : World) (ha : I64 a) : Calls Try.prog 70 #[.int .i64 a] w fun e w' => e = .returned (.tuple #[.int .i64 (a / 256), .int .i64 (a % 256)]) ∧ w' = w := by
  have e1 := i64_and255 a ha.1 ha.2
  have e3 : IntKind.i64.wrap (a / 256) = a / 256 := (IntKind.wrap_i64 _).trans (by have := ha.1; have := ha.2; omega)
  obtain ⟨r, hr⟩ : ∃ r, a % 256 = r := ⟨_, rfl⟩
  rw [hr] at e1 ⊢
  have HR := Hid.mk hr
  clear hr
  go_enter Try.func70, Try.ntmps70
  go_wp2
  go_ret2
  exact ⟨rfl, rfl⟩
set_option maxRecDepth 100000 in
set_option maxHeartbeats 4000000 in
theorem pbet (s y l : Int) (v : Value) (n : Nat) (F : Nat → List Int) (lod su sv e : Int) (c : Col) (w : World) (R : BRows w v n F) (bf : ByF n F) (hn : n ≤ 1048576) (hfl : ∀ x, x < n → (F x).length ≤ 1048576) : Calls Try.prog 41 #[.agg #[.int .i64 s, .int .i64 y, .int .i64 l, v], .int .i64 lod, .int .i64 su, .int .i64 sv, .int .i64 e, colV c] w fun e' w' => e' = .returned (.tuple #[colV (sbC s y l n F lod su sv e c), .bool (sbB s y l n F lod su sv e c)]) ∧ Below w.heap.size w w' := by
  have HRR : Hid (∀ w', Below w.heap.size w w' → BRows w' v n F) := fun w' b => R.next b
  have HG : Hid (∀ w, Calls Try.prog 67 #[.int .i64 su, .int .i64 sv] w fun e w' => e = .returned (.bool (plB su && plB sv)) ∧ w' = w) := fun w => pgoods su sv w
  obtain ⟨ad, cp, rfl, _⟩ := R
  have HALL : Hid (∀ w', Below (((w.alloc (.cells #[.int .i64 s, .int .i64 y, .int .i64 l, .slice ad n cp] 43)).alloc (.cells #[.int .i64 c.r, .int .i64 c.g, .int .i64 c.b, .int .i64 c.a] 25)).alloc (.cells #[.int .i64 0, .int .i64 0, .int .i64 0, .int .i64 0] 25)).heap.size (((w.alloc (.cells #[.int .i64 s, .int .i64 y, .int .i64 l, .slice ad n cp] 43)).alloc (.cells #[.int .i64 c.r, .int .i64 c.g, .int .i64 c.b, .int .i64 c.a] 25)).alloc (.cells #[.int .i64 0, .int .i64 0, .int .i64 0, .int .i64 0] 25)) w' → Hid (Below w.heap.size w w') ∧ C4 w' w.heap.size (.int .i64 s) (.int .i64 y) (.int .i64 l) (.slice ad n cp) ∧ C4 w' (w.heap.size + 1) (.int .i64 c.r) (.int .i64 c.g) (.int .i64 c.b) (.int .i64 c.a) ∧ C4 w' (w.heap.size + 1 + 1) (.int .i64 0) (.int .i64 0) (.int .i64 0) (.int .i64 0)) := fun w' b => ⟨(b3 (o1 := (.cells #[.int .i64 s, .int .i64 y, .int .i64 l, .slice ad n cp] 43)) (o2 := (.cells #[.int .i64 c.r, .int .i64 c.g, .int .i64 c.b, .int .i64 c.a] 25)) (o3 := (.cells #[.int .i64 0, .int .i64 0, .int .i64 0, .int .i64 0] 25))).trans (b.mono (b3 (o1 := (.cells #[.int .i64 s, .int .i64 y, .int .i64 l, .slice ad n cp] 43)) (o2 := (.cells #[.int .i64 c.r, .int .i64 c.g, .int .i64 c.b, .int .i64 c.a] 25)) (o3 := (.cells #[.int .i64 0, .int .i64 0, .int .i64 0, .int .i64 0] 25))).size), (((C4.new w 43 (.int .i64 s) (.int .i64 y) (.int .i64 l) (.slice ad n cp)).next (alloc_b (o := (.cells #[.int .i64 c.r, .int .i64 c.g, .int .i64 c.b, .int .i64 c.a] 25)))).next (alloc_b (o := (.cells #[.int .i64 0, .int .i64 0, .int .i64 0, .int .i64 0] 25)))).next b, by
    have h := ((C4.new (w.alloc (.cells #[.int .i64 s, .int .i64 y, .int .i64 l, .slice ad n cp] 43)) 25 (.int .i64 c.r) (.int .i64 c.g) (.int .i64 c.b) (.int .i64 c.a)).next (alloc_b (o := (.cells #[.int .i64 0, .int .i64 0, .int .i64 0, .int .i64 0] 25)))).next b
    rwa [World.size_alloc] at h, by
    have h := (C4.new ((w.alloc (.cells #[.int .i64 s, .int .i64 y, .int .i64 l, .slice ad n cp] 43)).alloc (.cells #[.int .i64 c.r, .int .i64 c.g, .int .i64 c.b, .int .i64 c.a] 25)) 25 (.int .i64 0) (.int .i64 0) (.int .i64 0) (.int .i64 0)).next b
    rwa [World.size_alloc, World.size_alloc] at h⟩
  obtain ⟨BX0, T0, K0, D0⟩ := HALL.out _ (Below.refl _ _)
  obtain ⟨V0, hV0⟩ : ∃ z, (((w.alloc (.cells #[.int .i64 s, .int .i64 y, .int .i64 l, .slice ad n cp] 43)).alloc (.cells #[.int .i64 c.r, .int .i64 c.g, .int .i64 c.b, .int .i64 c.a] 25)).alloc (.cells #[.int .i64 0, .int .i64 0, .int .i64 0, .int .i64 0] 25)) = z := ⟨_, rfl⟩
  have HV0 := Hid.mk hV0
  have HAL : Hid (∀ w', Below V0.heap.size V0 w' → Hid (Below w.heap.size w w') ∧ C4 w' w.heap.size (.int .i64 s) (.int .i64 y) (.int .i64 l) (.slice ad n cp) ∧ C4 w' (w.heap.size + 1) (.int .i64 c.r) (.int .i64 c.g) (.int .i64 c.b) (.int .i64 c.a) ∧ C4 w' (w.heap.size + 1 + 1) (.int .i64 0) (.int .i64 0) (.int .i64 0) (.int .i64 0)) := fun w' b => by rw [← hV0] at b; exact HALL.out w' b
  rw [hV0] at BX0 T0 K0 D0
  clear hV0 HALL
  have BX0 := BX0.out
  have t0 := T0.c0
  have t1 := T0.c1
  have t2 := T0.c2
  have t3 := T0.c3
  have k0 := K0.c0
  have k1 := K0.c1
  have k2 := K0.c2
  have k3 := K0.c3
  have x0 := D0.c0
  have x1 := D0.c1
  have x2 := D0.c2
  have x3 := D0.c3
  have xf := D0.f
  unfold sbC
  have i1 : 256 * ((n : Int) - 1) ≤ 268435456 := by omega
  have i2 : -256 ≤ 256 * ((n : Int) - 1) := by omega
  have i3 : IntKind.i64.wrap ((n : Int) - 1) = (n : Int) - 1 := (IntKind.wrap_i64 _).trans (by omega)
  have i4 : IntKind.i64.wrap (256 * ((n : Int) - 1)) = 256 * ((n : Int) - 1) := (IntKind.wrap_i64 _).trans (by omega)
  by_cases l0 : lod < 0
  · rw [show sbB s y l n F lod su sv e c = false by unfold sbB; rw [decide_eq_false (by omega : ¬ 0 ≤ lod)]; simp, if_neg (by decide)]
    unfold colV zC
    go_enter Try.func41, Try.ntmps41
    go_upto_region 1 with fail
    rw [HV0.out]
    clear HV0
    go_wp2_with (go_at_call 67; refine (HG.out _).mono ?_; rintro e9 w9 ⟨rfl, hw⟩; subst w9)
    clear x0 x1 x2 x3 xf
    have D6 := D0.put (.int .i64 0) (.int .i64 0) (.int .i64 0) (.int .i64 0)
    have B06 : Below w.heap.size w (set4 V0 (w.heap.size + 1 + 1) (.int .i64 0) (.int .i64 0) (.int .i64 0) (.int .i64 0)) := BX0.trans ((only_set4 V0 (w.heap.size + 1 + 1) _ _ _ _).below (by omega) BX0.size)
    unfold set4 at D6 B06
    have r0 := D6.c0
    have r1 := D6.c1
    have r2 := D6.c2
    have r3 := D6.c3
    exact bodyPost_ret (v := .tuple #[.agg #[.int .i64 0, .int .i64 0, .int .i64 0, .int .i64 0], .bool false]) (by simp [results, Try.results41, go_sem, r0, r1, r2, r3]) rfl ⟨rfl, B06⟩
  by_cases l1 : lod ≤ 256 * ((n : Int) - 1)
  case neg =>
    rw [show sbB s y l n F lod su sv e c = false by unfold sbB; rw [decide_eq_false l1]; simp, if_neg (by decide)]
    unfold colV zC
    have l2 : 256 * ((n : Int) - 1) < lod := by omega
    clear l1
    go_enter Try.func41, Try.ntmps41
    go_upto_region 1 with fail
    rw [HV0.out]
    clear HV0
    go_wp2_with (go_at_call 67; refine (HG.out _).mono ?_; rintro e9 w9 ⟨rfl, hw⟩; subst w9)
    clear x0 x1 x2 x3 xf
    have D6 := D0.put (.int .i64 0) (.int .i64 0) (.int .i64 0) (.int .i64 0)
    have B06 : Below w.heap.size w (set4 V0 (w.heap.size + 1 + 1) (.int .i64 0) (.int .i64 0) (.int .i64 0) (.int .i64 0)) := BX0.trans ((only_set4 V0 (w.heap.size + 1 + 1) _ _ _ _).below (by omega) BX0.size)
    unfold set4 at D6 B06
    have r0 := D6.c0
    have r1 := D6.c1
    have r2 := D6.c2
    have r3 := D6.c3
    exact bodyPost_ret (v := .tuple #[.agg #[.int .i64 0, .int .i64 0, .int .i64 0, .int .i64 0], .bool false]) (by simp [results, Try.results41, go_sem, r0, r1, r2, r3]) rfl ⟨rfl, B06⟩
  have l2 : ¬ 256 * ((n : Int) - 1) < lod := by omega
  cases hp : plB su && plB sv
  · rw [show sbB s y l n F lod su sv e c = false by unfold sbB; rw [hp]; simp, if_neg (by decide)]
    rw [hp] at HG
    unfold colV zC
    clear l1 hp
    go_enter Try.func41, Try.ntmps41
    go_upto_region 1 with fail
    rw [HV0.out]
    clear HV0
    go_wp2_with (go_at_call 67; refine (HG.out _).mono ?_; rintro e9 w9 ⟨rfl, hw⟩; subst w9)
    clear x0 x1 x2 x3 xf
    have D6 := D0.put (.int .i64 0) (.int .i64 0) (.int .i64 0) (.int .i64 0)
    have B06 : Below w.heap.size w (set4 V0 (w.heap.size + 1 + 1) (.int .i64 0) (.int .i64 0) (.int .i64 0) (.int .i64 0)) := BX0.trans ((only_set4 V0 (w.heap.size + 1 + 1) _ _ _ _).below (by omega) BX0.size)
    unfold set4 at D6 B06
    have r0 := D6.c0
    have r1 := D6.c1
    have r2 := D6.c2
    have r3 := D6.c3
    exact bodyPost_ret (v := .tuple #[.agg #[.int .i64 0, .int .i64 0, .int .i64 0, .int .i64 0], .bool false]) (by simp [results, Try.results41, go_sem, r0, r1, r2, r3]) rfl ⟨rfl, B06⟩
  rw [hp] at HG
  simp only [Bool.and_eq_true] at hp
  obtain ⟨hu, hv⟩ := hp
  have HSP := Hid.mk (fun w => psplit2 lod w ⟨by omega, by omega⟩)
  obtain ⟨Lk, hK⟩ : ∃ z, lod / 256 = z := ⟨_, rfl⟩
  obtain ⟨r, hr⟩ : ∃ z, lod % 256 = z := ⟨_, rfl⟩
  obtain ⟨Lm, hK1⟩ : ∃ z, Lk + 1 = z := ⟨_, rfl⟩
  have k0 : 0 ≤ Lk := by omega
  have k1 : Lk < n := by omega
  have r0 : 0 ≤ r := by omega
  have r1 : r ≤ 255 := by omega
  have HKR : Hid (¬ r = 0 → Lm < n) := fun h => by omega
  rw [hK, hr] at HSP
  rw [hK, hr, hK1]
  clear hK hr
  have HSU0 : Hid (∀ k : Int, 0 ≤ k → Op.shift .shr .i64 su .i64 k = pure (.int .i64 (shI su k))) := fun k h => shr_any .i64 su k h
  have HSV0 : Hid (∀ k : Int, 0 ≤ k → Op.shift .shr .i64 sv .i64 k = pure (.int .i64 (shI sv k))) := fun k h => shr_any .i64 sv k h
  have HSUQ : Hid (su / 2 ^ min Lk.toNat 64 = shI su Lk) := Hid.mk rfl
  have HSU1Q : Hid (su / 2 ^ min Lm.toNat 64 = shI su Lm) := Hid.mk rfl
  have HSVQ : Hid (sv / 2 ^ min Lk.toNat 64 = shI sv Lk) := Hid.mk rfl
  have HSV1Q : Hid (sv / 2 ^ min Lm.toNat 64 = shI sv Lm) := Hid.mk rfl
  have HSU := Hid.mk (HSU0.out Lk k0)
  have HSV := Hid.mk (HSV0.out Lk k0)
  have HSU1 := Hid.mk (HSU0.out Lm (by omega))
  have HSV1 := Hid.mk (HSV0.out Lm (by omega))
  have HSA : Hid (∀ k : Int, ∀ w', Below w.heap.size w w' → Calls Try.prog 39 #[.agg #[.int .i64 s, .int .i64 y, .int .i64 l, .slice ad n cp], .int .i64 k, .int .i64 (shI su k), .int .i64 (shI sv k), .int .i64 e, .agg #[.int .i64 c.r, .int .i64 c.g, .int .i64 c.b, .int .i64 c.a]] w' fun e' w'' => e' = .returned (.tuple #[colV (scC s y l n F k (shI su k) (shI sv k) e c), .bool (scB s y l n F k (shI su k) (shI sv k) e c)]) ∧ Below w'.heap.size w' w'') := fun k w' b => psam s y l _ n F k (shI su k) (shI sv k) e c w' (HRR.out w' b) bf hn hfl
  have HS1 := Hid.mk (HSA.out Lk)
  have HS2 := Hid.mk (HSA.out Lm)
  have key : Hid ((sbB s y l n F lod su sv e c = false ∧ scB s y l n F Lk (shI su Lk) (shI sv Lk) e c = false ∧ scC s y l n F Lk (shI su Lk) (shI sv Lk) e c = zC) ∨ (sbB s y l n F lod su sv e c = true ∧ scB s y l n F Lk (shI su Lk) (shI sv Lk) e c = true ∧ scC s y l n F Lk (shI su Lk) (shI sv Lk) e c = smC s y l F (Lk).toNat (shI su Lk) (shI sv Lk) e c ∧ (smC s y l F (Lk).toNat (shI su Lk) (shI sv Lk) e c).ok ∧ (¬ r = 0 → scB s y l n F Lm (shI su Lm) (shI sv Lm) e c = true ∧ scC s y l n F Lm (shI su Lm) (shI sv Lm) e c = smC s y l F (Lm).toNat (shI su Lm) (shI sv Lm) e c ∧ (smC s y l F (Lm).toNat (shI su Lm) (shI sv Lm) e c).ok))) := by
    cases hg : (gtB s y l n F && egB e c.r c.g c.b c.a)
    · have hs : scB s y l n F Lk (shI su Lk) (shI sv Lk) e c = false := by unfold scB fcB; rw [hg]; rfl
      exact Or.inl ⟨by unfold sbB; rw [hg]; rfl, hs, by unfold scC; rw [hs, if_neg (by decide)]⟩
    · have hg2 := hg
      simp only [Bool.and_eq_true] at hg2
      obtain ⟨g1, g2⟩ := hg2
      have n5 : n ≤ 5 := by obtain ⟨gs1, gs2, hfb, hnl, hlen⟩ := (gt_iff s y l n F).1 g1; have := lcN_le s y; omega
      have hs : ∀ k : Int, 0 ≤ k → k < n → scB s y l n F k (shI su k) (shI sv k) e c = true := fun k h0 h1 => by
        unfold scB fcB
        rw [hg, decide_eq_true h0, decide_eq_true h1, pl_of (sh_bnd su k h0 (by omega) (pl_iff hu)), pl_of (sh_bnd sv k h0 (by omega) (pl_iff hv))]; rfl
      have hc : ∀ k : Int, 0 ≤ k → k < n → scC s y l n F k (shI su k) (shI sv k) e c = smC s y l F (k).toNat (shI su k) (shI sv k) e c := fun k h0 h1 => by
        unfold scC; rw [hs k h0 h1, if_pos rfl]; rfl
      have ho : ∀ k : Int, 0 ≤ k → k < n → (smC s y l F (k).toNat (shI su k) (shI sv k) e c).ok := fun k h0 h1 => sm_ok s y l n F k.toNat _ _ e c g1 (by omega) bf g2
      exact Or.inr ⟨by unfold sbB; rw [hg, hu, hv, decide_eq_true (by omega : 0 ≤ lod), decide_eq_true l1]; rfl, hs Lk k0 k1, hc Lk k0 k1, ho Lk k0 k1, fun h => ⟨hs Lm (by omega) (HKR.out h), hc Lm (by omega) (HKR.out h), ho Lm (by omega) (HKR.out h)⟩⟩
  have hk1w : IntKind.i64.wrap (Lk + 1) = Lm := (IntKind.wrap_i64 _).trans (by omega)
  have hklo : 0 ≤ Lm := by omega
  have hkhi : Lm ≤ 1048576 := by omega
  have hkle : Lk ≤ 1048576 := by omega
  unfold colV at HS1 HS2 ⊢
  generalize smC s y l F (Lk).toNat (shI su Lk) (shI sv Lk) e c = m1 at key ⊢
  generalize smC s y l F (Lm).toNat (shI su Lm) (shI sv Lm) e c = m2 at key ⊢
  generalize scC s y l n F Lk (shI su Lk) (shI sv Lk) e c = q1 at HS1 key ⊢
  generalize scB s y l n F Lk (shI su Lk) (shI sv Lk) e c = b1 at HS1 key ⊢
  generalize scC s y l n F Lm (shI su Lm) (shI sv Lm) e c = q2 at HS2 key ⊢
  generalize scB s y l n F Lm (shI su Lm) (shI sv Lm) e c = b2 at HS2 key ⊢
  generalize sbB s y l n F lod su sv e c = GB at key ⊢
  generalize shI su Lk = U at HS1 HSU HSUQ
  generalize shI sv Lk = V at HS1 HSV HSVQ
  generalize shI su Lm = U1 at HS2 HSU1 HSU1Q
  generalize shI sv Lm = V1 at HS2 HSV1 HSV1Q
  have HKEY := key
  clear HSA HSU0 HSV0 HRR bf hfl l1 hu hv key
  rcases HKEY.out with ⟨rfl, rfl, rfl⟩ | ⟨rfl, rfl, rfl, ok1, h2⟩
  · rw [if_neg (by decide)]
    clear HKEY
    go_enter Try.func41, Try.ntmps41
    go_upto_region 1 with fail
    rw [HV0.out]
    clear HV0
    go_upto_region 4 with (first | (go_at_call 67; refine (HG.out _).mono ?_; rintro e9 w9 ⟨rfl, hw⟩; subst w9) | (go_at_call 70; refine (HSP.out _).mono ?_; rintro e9 w9 ⟨rfl, hw⟩; subst w9))
    have T2 := T0
    have K2 := K0
    have D2 := D0
    have BX := BX0
    clear t0 k0 x0 t1 k1 x1 t2 k2 x2 t3 k3 x3 xf T0 K0 D0 BX0
    go_cut [16, 17] (fun pv bv wx => ∃ ab : Nat, pv = .pointer (some ⟨ab, 0, none⟩) ∧ bv = .bool false ∧ C4 wx ab (.int .i64 zC.r) (.int .i64 zC.g) (.int .i64 zC.b) (.int .i64 zC.a) ∧ Below V0.heap.size V0 wx ∧ V0.heap.size ≤ ab)
    case first =>
      have TA := T2
      have KA := K2
      generalize hWW : V0.drew = WX
      have TA := TA.next (below_drew (Below.refl _ _))
      have KA := KA.next (below_drew (Below.refl _ _))
      have BX := below_drew BX
      have BX2 : Below V0.heap.size V0 V0.drew := below_drew (Below.refl _ _)
      rw [hWW] at TA KA BX BX2
      refine wp_region_held_drew (S := fun v => Below WX.heap.size WX v) (by kernel_rfl) (by rw [hWW]; exact Below.refl _ _) (fun hH => ?_)
      rw [hWW] at hH ⊢
      clear hWW
      refine wpAnyH_take (i := 0) (oi := { dst := some 43, op := Op.load 43 (Operand.tmp 6), type := 43, pos := "l16_texture.go:163", after := #[], guard := none }) (v := .agg #[.int .i64 s, .int .i64 y, .int .i64 l, .slice ad n cp]) rfl (by kernel_rfl) (by kernel_rfl) (by kernel_rfl) (fun _ _ _ h => h) (Or.inl ⟨by rfl, fun w0 hSw => by ((have e0 := cell_nx TA.c0 hSw); (have e1 := cell_nx TA.c1 hSw); (have e2 := cell_nx TA.c2 hSw); (have e3 := cell_nx TA.c3 hSw); go_simp)⟩) hH ?_
      simp only [Act.put, List.setIfInBounds_toArray, List.set_cons_zero, List.set_cons_succ]
      refine wpAnyH_take (i := 1) (oi := { dst := some 44, op := Op.move (Operand.tmp 14), type := 3, pos := "l16_texture.go:163", after := #[], guard := none }) (v := .int .i64 Lk) rfl (by kernel_rfl) (by kernel_rfl) (by kernel_rfl) (fun _ _ _ h => h) (Or.inl ⟨by rfl, fun w0 hSw => by (go_simp <;> first | exact (IntKind.wrap_i64 _).trans (by omega) | omega)⟩) hH ?_
      simp only [Act.put, List.setIfInBounds_toArray, List.set_cons_zero, List.set_cons_succ]
      refine wpAnyH_take (i := 2) (oi := { dst := some 45, op := Op.move (Operand.tmp 2), type := 3, pos := "l16_texture.go:163", after := #[], guard := none }) (v := .int .i64 su) rfl (by kernel_rfl) (by kernel_rfl) (by kernel_rfl) (fun _ _ _ h => h) (Or.inl ⟨by rfl, fun w0 hSw => by (go_simp)⟩) hH ?_
      simp only [Act.put, List.setIfInBounds_toArray, List.set_cons_zero, List.set_cons_succ]
      refine wpAnyH_take (i := 3) (oi := { dst := some 46, op := Op.move (Operand.tmp 14), type := 3, pos := "l16_texture.go:163", after := #[], guard := none }) (v := .int .i64 Lk) rfl (by kernel_rfl) (by kernel_rfl) (by kernel_rfl) (fun _ _ _ h => h) (Or.inl ⟨by rfl, fun w0 hSw => by (go_simp <;> first | exact (IntKind.wrap_i64 _).trans (by omega) | omega)⟩) hH ?_
      simp only [Act.put, List.setIfInBounds_toArray, List.set_cons_zero, List.set_cons_succ]
      refine wpAnyH_take (i := 4) (oi := { dst := some 47, op := Op.binOp BinOp.shr 3 (Operand.tmp 45) (Operand.tmp 46) 3, type := 3, pos := "l16_texture.go:163", after := #[{ on := 2, ground := Ground.data }, { on := 3, ground := Ground.data }], guard := none }) (v := .int .i64 U) rfl (by kernel_rfl) (by kernel_rfl) (by kernel_rfl) (fun _ _ _ h => h) (Or.inl ⟨by rfl, fun w0 hSw => by ((first | (go_simp; rw [HSU.out]; rfl) | (go_simp; exact HSU.out) | (go_simp; simp [HSU.out]; done) | (go_simp; exact HSUQ.out) | (go_simp; trace_state; fail)))⟩) hH ?_
      simp only [Act.put, List.setIfInBounds_toArray, List.set_cons_zero, List.set_cons_succ]
      refine wpAnyH_take (i := 5) (oi := { dst := some 48, op := Op.move (Operand.tmp 3), type := 3, pos := "l16_texture.go:163", after := #[], guard := none }) (v := .int .i64 sv) rfl (by kernel_rfl) (by kernel_rfl) (by kernel_rfl) (fun _ _ _ h => h) (Or.inl ⟨by rfl, fun w0 hSw => by (go_simp)⟩) hH ?_
      simp only [Act.put, List.setIfInBounds_toArray, List.set_cons_zero, List.set_cons_succ]
      refine wpAnyH_take (i := 6) (oi := { dst := some 49, op := Op.move (Operand.tmp 14), type := 3, pos := "l16_texture.go:163", after := #[], guard := none }) (v := .int .i64 Lk) rfl (by kernel_rfl) (by kernel_rfl) (by kernel_rfl) (fun _ _ _ h => h) (Or.inl ⟨by rfl, fun w0 hSw => by (go_simp <;> first | exact (IntKind.wrap_i64 _).trans (by omega) | omega)⟩) hH ?_
      simp only [Act.put, List.setIfInBounds_toArray, List.set_cons_zero, List.set_cons_succ]
      refine wpAnyH_take (i := 7) (oi := { dst := some 50, op := Op.binOp BinOp.shr 3 (Operand.tmp 48) (Operand.tmp 49) 3, type := 3, pos := "l16_texture.go:163", after := #[{ on := 5, ground := Ground.data }, { on := 6, ground := Ground.data }], guard := none }) (v := .int .i64 V) rfl (by kernel_rfl) (by kernel_rfl) (by kernel_rfl) (fun _ _ _ h => h) (Or.inl ⟨by rfl, fun w0 hSw => by ((first | (go_simp; rw [HSV.out]; rfl) | (go_simp; exact HSV.out) | (go_simp; simp [HSV.out]; done) | (go_simp; exact HSVQ.out) | (go_simp; trace_state; fail)))⟩) hH ?_
      simp only [Act.put, List.setIfInBounds_toArray, List.set_cons_zero, List.set_cons_succ]
      refine wpAnyH_take (i := 8) (oi := { dst := some 51, op := Op.move (Operand.tmp 4), type := 3, pos := "l16_texture.go:163", after := #[], guard := none }) (v := .int .i64 e) rfl (by kernel_rfl) (by kernel_rfl) (by kernel_rfl) (fun _ _ _ h => h) (Or.inl ⟨by rfl, fun w0 hSw => by (go_simp)⟩) hH ?_
      simp only [Act.put, List.setIfInBounds_toArray, List.set_cons_zero, List.set_cons_succ]
      refine wpAnyH_take (i := 9) (oi := { dst := some 52, op := Op.load 25 (Operand.tmp 11), type := 25, pos := "l16_texture.go:163", after := #[], guard := none }) (v := .agg #[.int .i64 c.r, .int .i64 c.g, .int .i64 c.b, .int .i64 c.a]) rfl (by kernel_rfl) (by kernel_rfl) (by kernel_rfl) (fun _ _ _ h => h) (Or.inl ⟨by rfl, fun w0 hSw => by ((have e0 := cell_nx KA.c0 hSw); (have e1 := cell_nx KA.c1 hSw); (have e2 := cell_nx KA.c2 hSw); (have e3 := cell_nx KA.c3 hSw); go_simp)⟩) hH ?_
      simp only [Act.put, List.setIfInBounds_toArray, List.set_cons_zero, List.set_cons_succ]
      refine wpAnyH_ready (rs := [10, 14]) (by kernel_rfl) (by simp) ?_
      refine (AllReadyH.cons (o := { dst := some 53, op := Op.call { callee := Callee.value (Operand.func 39), args := #[Operand.tmp 43, Operand.tmp 44, Operand.tmp 47, Operand.tmp 50, Operand.tmp 51, Operand.tmp 52], argTypes := #[43, 3, 3, 3, 3, 25] }, type := 33, pos := "l16_texture.go:163", after := #[{ on := 0, ground := Ground.data }, { on := 1, ground := Ground.data }, { on := 4, ground := Ground.data }, { on := 7, ground := Ground.data }, { on := 8, ground := Ground.data }, { on := 9, ground := Ground.data }], guard := none }) rfl (fun K hK => ?_) (AllReadyH.cons (o := { dst := some 16, op := Op.alloc 25, type := 0, pos := "l16_texture.go:163", after := #[], guard := none }) rfl (fun K hK => ?_) AllReadyH.nil))
      · refine step_callC 39 #[.agg #[.int .i64 s, .int .i64 y, .int .i64 l, .slice ad n cp], .int .i64 Lk, .int .i64 U, .int .i64 V, .int .i64 e, .agg #[.int .i64 c.r, .int .i64 c.g, .int .i64 c.b, .int .i64 c.a]] (fun z v w' => z = .tuple #[.agg #[.int .i64 zC.r, .int .i64 zC.g, .int .i64 zC.b, .int .i64 zC.a], .bool false] ∧ Below v.heap.size v w') (by rfl) (by go_simp) ((HS1.out _ (BX.trans (hH.mono BX.size))).mono fun e w' ⟨h1, h2⟩ => ⟨_, h1, rfl, h2⟩) ?_
        rintro z7 wC ⟨rfl, B7⟩
        simp only [Act.put, List.setIfInBounds_toArray, List.set_cons_zero, List.set_cons_succ]
        refine hK.out _ _ (hH.trans (B7.mono hH.size)) (fun hH' => ?_)
        clear hK K
        replace hH := hH'
        clear hH' 
        clear B7
        refine wpAnyH_take (i := 11) (oi := { dst := some 42, op := Op.move (Operand.tmp 53), type := 33, pos := "l16_texture.go:163", after := #[{ on := 10, ground := Ground.data }], guard := none }) (v := .tuple #[.agg #[.int .i64 zC.r, .int .i64 zC.g, .int .i64 zC.b, .int .i64 zC.a], .bool false]) rfl (by kernel_rfl) (by kernel_rfl) (by kernel_rfl) (fun _ _ _ h => h) (Or.inl ⟨by rfl, fun w0 hSw => by (go_simp)⟩) hH ?_
        simp only [Act.put, List.setIfInBounds_toArray, List.set_cons_zero, List.set_cons_succ]
        refine wpAnyH_take (i := 12) (oi := { dst := some 54, op := Op.extract (Operand.tmp 42) 0, type := 25, pos := "l16_texture.go:163", after := #[{ on := 11, ground := Ground.data }], guard := none }) (v := .agg #[.int .i64 zC.r, .int .i64 zC.g, .int .i64 zC.b, .int .i64 zC.a]) rfl (by kernel_rfl) (by kernel_rfl) (by kernel_rfl) (fun _ _ _ h => h) (Or.inl ⟨by rfl, fun w0 hSw => by (go_simp)⟩) hH ?_
        simp only [Act.put, List.setIfInBounds_toArray, List.set_cons_zero, List.set_cons_succ]
        refine wpAnyH_take (i := 13) (oi := { dst := some 55, op := Op.extract (Operand.tmp 42) 1, type := 4, pos := "l16_texture.go:163", after := #[{ on := 11, ground := Ground.data }, { on := 15, ground := Ground.gcOnly Departure.lateStores }], guard := none }) (v := .bool false) rfl (by kernel_rfl) (by kernel_rfl) (by kernel_rfl) (fun _ _ _ h => h) (Or.inl ⟨by rfl, fun w0 hSw => by (go_simp)⟩) hH ?_
        simp only [Act.put, List.setIfInBounds_toArray, List.set_cons_zero, List.set_cons_succ]
        refine wpAnyH_ready (rs := [14]) (by kernel_rfl) (by simp) ?_
        refine (AllReadyH.cons (o := { dst := some 16, op := Op.alloc 25, type := 0, pos := "l16_texture.go:163", after := #[], guard := none }) rfl (fun K hK => ?_) AllReadyH.nil)
        refine step_val (.pointer (some ⟨wC.heap.size, 0, none⟩)) (wC.alloc (.cells #[.int .i64 0, .int .i64 0, .int .i64 0, .int .i64 0] 25)) (by rfl) (by go_simp) ?_
        have D8 := C4.new wC 25 (.int .i64 0) (.int .i64 0) (.int .i64 0) (.int .i64 0)
        have hD8 : WX.heap.size ≤ wC.heap.size := hH.size
        simp only [Act.put, List.setIfInBounds_toArray, List.set_cons_zero, List.set_cons_succ]
        refine hK.out _ _ (hH.trans (alloc_b.mono hH.size)) (fun hH' => ?_)
        clear hK K
        replace hH := hH'
        clear hH' 
        generalize wC.alloc (.cells #[.int .i64 0, .int .i64 0, .int .i64 0, .int .i64 0] 25) = wN at D8 hH ⊢
        refine wpAnyH_ready (rs := [15]) (by kernel_rfl) (by simp) ?_
        refine (AllReadyH.cons (o := { dst := none, op := Op.store 25 (Operand.tmp 16) (Operand.tmp 54), type := 0, pos := "l16_texture.go:163", after := #[{ on := 14, ground := Ground.data }, { on := 12, ground := Ground.data }, { on := 10, ground := Ground.chain }, { on := 0, ground := Ground.phase }, { on := 1, ground := Ground.phase }, { on := 2, ground := Ground.phase }, { on := 3, ground := Ground.phase }, { on := 4, ground := Ground.phase }, { on := 5, ground := Ground.phase }, { on := 6, ground := Ground.phase }, { on := 7, ground := Ground.phase }, { on := 8, ground := Ground.phase }, { on := 9, ground := Ground.phase }, { on := 10, ground := Ground.phase }, { on := 11, ground := Ground.phase }, { on := 12, ground := Ground.phase }, { on := 13, ground := Ground.textOnly Departure.lateStores }, { on := 14, ground := Ground.phase }], guard := none }) rfl (fun K hK => ?_) AllReadyH.nil)
        have s0 := D8.c0
        have s1 := D8.c1
        have s2 := D8.c2
        have s3 := D8.c3
        have sf := D8.f
        refine step_skip (set4 wN (wC.heap.size) (.int .i64 zC.r) (.int .i64 zC.g) (.int .i64 zC.b) (.int .i64 zC.a)) (by rfl) (by unfold set4; go_simp) ?_
        have D9 := D8.put (.int .i64 zC.r) (.int .i64 zC.g) (.int .i64 zC.b) (.int .i64 zC.a)
        have B9 : Below WX.heap.size WX (set4 wN (wC.heap.size) (.int .i64 zC.r) (.int .i64 zC.g) (.int .i64 zC.b) (.int .i64 zC.a)) := hH.trans ((only_set4 wN (wC.heap.size) (.int .i64 zC.r) (.int .i64 zC.g) (.int .i64 zC.b) (.int .i64 zC.a)).below hD8 hH.size)
        refine hK.out _ _ B9 (fun hH' => ?_)
        clear hK K
        replace hH := hH'
        clear hH' s0 s1 s2 s3 sf D8
        refine wpAnyH_take (i := 16) (oi := { dst := some 17, op := Op.assign (Operand.tmp 55), type := 4, pos := "l16_texture.go:163", after := #[{ on := 13, ground := Ground.data }, { on := 15, ground := Ground.chain }, { on := 0, ground := Ground.phase }, { on := 1, ground := Ground.phase }, { on := 2, ground := Ground.phase }, { on := 3, ground := Ground.phase }, { on := 4, ground := Ground.phase }, { on := 5, ground := Ground.phase }, { on := 6, ground := Ground.phase }, { on := 7, ground := Ground.phase }, { on := 8, ground := Ground.phase }, { on := 9, ground := Ground.phase }, { on := 10, ground := Ground.phase }, { on := 11, ground := Ground.phase }, { on := 12, ground := Ground.phase }, { on := 13, ground := Ground.phase }, { on := 14, ground := Ground.phase }, { on := 15, ground := Ground.phase }], guard := none }) (v := .bool false) rfl (by kernel_rfl) (by kernel_rfl) (by kernel_rfl) (fun _ _ _ h => h) (Or.inl ⟨by rfl, fun w0 hSw => by (go_simp)⟩) hH ?_
        simp only [Act.put, List.setIfInBounds_toArray, List.set_cons_zero, List.set_cons_succ]
        refine wpAnyH_done (by kernel_rfl) ?_ _
        go_wp2_with fail
        go_meet
        case rel => exact ⟨wC.heap.size, rfl, rfl, D9, BX2.trans (B9.mono BX2.size), Nat.le_trans BX2.size hD8⟩
      · refine step_val (.pointer (some ⟨WX.heap.size, 0, none⟩)) (WX.alloc (.cells #[.int .i64 0, .int .i64 0, .int .i64 0, .int .i64 0] 25)) (by rfl) (by go_simp) ?_
        have D8 := C4.new WX 25 (.int .i64 0) (.int .i64 0) (.int .i64 0) (.int .i64 0)
        have hD8 : WX.heap.size ≤ WX.heap.size := hH.size
        simp only [Act.put, List.setIfInBounds_toArray, List.set_cons_zero, List.set_cons_succ]
        refine hK.out _ _ (hH.trans (alloc_b.mono hH.size)) (fun hH' => ?_)
        clear hK K
        replace hH := hH'
        clear hH' 
        generalize WX.alloc (.cells #[.int .i64 0, .int .i64 0, .int .i64 0, .int .i64 0] 25) = wN at D8 hH ⊢
        refine wpAnyH_ready (rs := [10]) (by kernel_rfl) (by simp) ?_
        refine (AllReadyH.cons (o := { dst := some 53, op := Op.call { callee := Callee.value (Operand.func 39), args := #[Operand.tmp 43, Operand.tmp 44, Operand.tmp 47, Operand.tmp 50, Operand.tmp 51, Operand.tmp 52], argTypes := #[43, 3, 3, 3, 3, 25] }, type := 33, pos := "l16_texture.go:163", after := #[{ on := 0, ground := Ground.data }, { on := 1, ground := Ground.data }, { on := 4, ground := Ground.data }, { on := 7, ground := Ground.data }, { on := 8, ground := Ground.data }, { on := 9, ground := Ground.data }], guard := none }) rfl (fun K hK => ?_) AllReadyH.nil)
        refine step_callC 39 #[.agg #[.int .i64 s, .int .i64 y, .int .i64 l, .slice ad n cp], .int .i64 Lk, .int .i64 U, .int .i64 V, .int .i64 e, .agg #[.int .i64 c.r, .int .i64 c.g, .int .i64 c.b, .int .i64 c.a]] (fun z v w' => z = .tuple #[.agg #[.int .i64 zC.r, .int .i64 zC.g, .int .i64 zC.b, .int .i64 zC.a], .bool false] ∧ Below v.heap.size v w') (by rfl) (by go_simp) ((HS1.out _ (BX.trans (hH.mono BX.size))).mono fun e w' ⟨h1, h2⟩ => ⟨_, h1, rfl, h2⟩) ?_
        rintro z7 wC ⟨rfl, B7⟩
        replace D8 := D8.next B7
        simp only [Act.put, List.setIfInBounds_toArray, List.set_cons_zero, List.set_cons_succ]
        refine hK.out _ _ (hH.trans (B7.mono hH.size)) (fun hH' => ?_)
        clear hK K
        replace hH := hH'
        clear hH' 
        clear B7
        refine wpAnyH_take (i := 11) (oi := { dst := some 42, op := Op.move (Operand.tmp 53), type := 33, pos := "l16_texture.go:163", after := #[{ on := 10, ground := Ground.data }], guard := none }) (v := .tuple #[.agg #[.int .i64 zC.r, .int .i64 zC.g, .int .i64 zC.b, .int .i64 zC.a], .bool false]) rfl (by kernel_rfl) (by kernel_rfl) (by kernel_rfl) (fun _ _ _ h => h) (Or.inl ⟨by rfl, fun w0 hSw => by (go_simp)⟩) hH ?_
        simp only [Act.put, List.setIfInBounds_toArray, List.set_cons_zero, List.set_cons_succ]
        refine wpAnyH_take (i := 12) (oi := { dst := some 54, op := Op.extract (Operand.tmp 42) 0, type := 25, pos := "l16_texture.go:163", after := #[{ on := 11, ground := Ground.data }], guard := none }) (v := .agg #[.int .i64 zC.r, .int .i64 zC.g, .int .i64 zC.b, .int .i64 zC.a]) rfl (by kernel_rfl) (by kernel_rfl) (by kernel_rfl) (fun _ _ _ h => h) (Or.inl ⟨by rfl, fun w0 hSw => by (go_simp)⟩) hH ?_
        simp only [Act.put, List.setIfInBounds_toArray, List.set_cons_zero, List.set_cons_succ]
        refine wpAnyH_take (i := 13) (oi := { dst := some 55, op := Op.extract (Operand.tmp 42) 1, type := 4, pos := "l16_texture.go:163", after := #[{ on := 11, ground := Ground.data }, { on := 15, ground := Ground.gcOnly Departure.lateStores }], guard := none }) (v := .bool false) rfl (by kernel_rfl) (by kernel_rfl) (by kernel_rfl) (fun _ _ _ h => h) (Or.inl ⟨by rfl, fun w0 hSw => by (go_simp)⟩) hH ?_
        simp only [Act.put, List.setIfInBounds_toArray, List.set_cons_zero, List.set_cons_succ]
        refine wpAnyH_ready (rs := [15]) (by kernel_rfl) (by simp) ?_
        refine (AllReadyH.cons (o := { dst := none, op := Op.store 25 (Operand.tmp 16) (Operand.tmp 54), type := 0, pos := "l16_texture.go:163", after := #[{ on := 14, ground := Ground.data }, { on := 12, ground := Ground.data }, { on := 10, ground := Ground.chain }, { on := 0, ground := Ground.phase }, { on := 1, ground := Ground.phase }, { on := 2, ground := Ground.phase }, { on := 3, ground := Ground.phase }, { on := 4, ground := Ground.phase }, { on := 5, ground := Ground.phase }, { on := 6, ground := Ground.phase }, { on := 7, ground := Ground.phase }, { on := 8, ground := Ground.phase }, { on := 9, ground := Ground.phase }, { on := 10, ground := Ground.phase }, { on := 11, ground := Ground.phase }, { on := 12, ground := Ground.phase }, { on := 13, ground := Ground.textOnly Departure.lateStores }, { on := 14, ground := Ground.phase }], guard := none }) rfl (fun K hK => ?_) AllReadyH.nil)
        have s0 := D8.c0
        have s1 := D8.c1
        have s2 := D8.c2
        have s3 := D8.c3
        have sf := D8.f
        refine step_skip (set4 wC (WX.heap.size) (.int .i64 zC.r) (.int .i64 zC.g) (.int .i64 zC.b) (.int .i64 zC.a)) (by rfl) (by unfold set4; go_simp) ?_
        have D9 := D8.put (.int .i64 zC.r) (.int .i64 zC.g) (.int .i64 zC.b) (.int .i64 zC.a)
        have B9 : Below WX.heap.size WX (set4 wC (WX.heap.size) (.int .i64 zC.r) (.int .i64 zC.g) (.int .i64 zC.b) (.int .i64 zC.a)) := hH.trans ((only_set4 wC (WX.heap.size) (.int .i64 zC.r) (.int .i64 zC.g) (.int .i64 zC.b) (.int .i64 zC.a)).below hD8 hH.size)
        refine hK.out _ _ B9 (fun hH' => ?_)
        clear hK K
        replace hH := hH'
        clear hH' s0 s1 s2 s3 sf D8
        refine wpAnyH_take (i := 16) (oi := { dst := some 17, op := Op.assign (Operand.tmp 55), type := 4, pos := "l16_texture.go:163", after := #[{ on := 13, ground := Ground.data }, { on := 15, ground := Ground.chain }, { on := 0, ground := Ground.phase }, { on := 1, ground := Ground.phase }, { on := 2, ground := Ground.phase }, { on := 3, ground := Ground.phase }, { on := 4, ground := Ground.phase }, { on := 5, ground := Ground.phase }, { on := 6, ground := Ground.phase }, { on := 7, ground := Ground.phase }, { on := 8, ground := Ground.phase }, { on := 9, ground := Ground.phase }, { on := 10, ground := Ground.phase }, { on := 11, ground := Ground.phase }, { on := 12, ground := Ground.phase }, { on := 13, ground := Ground.phase }, { on := 14, ground := Ground.phase }, { on := 15, ground := Ground.phase }], guard := none }) (v := .bool false) rfl (by kernel_rfl) (by kernel_rfl) (by kernel_rfl) (fun _ _ _ h => h) (Or.inl ⟨by rfl, fun w0 hSw => by (go_simp)⟩) hH ?_
        simp only [Act.put, List.setIfInBounds_toArray, List.set_cons_zero, List.set_cons_succ]
        refine wpAnyH_done (by kernel_rfl) ?_ _
        go_wp2_with fail
        go_meet
        case rel => exact ⟨WX.heap.size, rfl, rfl, D9, BX2.trans (B9.mono BX2.size), Nat.le_trans BX2.size hD8⟩
    case rest =>
      obtain ⟨nb, rfl, rfl, N6, B6, hnb⟩ := hcut
      have T6 := T2.next B6
      have K6 := K2.next B6
      have D6 := D2.next B6
      have BX6 := BX.trans (B6.mono BX.size)
      clear BX T2 K2 D2 B6
      generalize hwc : wc = w6 at *
      clear hwc
      have t0 := T6.c0
      have t1 := T6.c1
      have t2 := T6.c2
      have t3 := T6.c3
      have k0 := K6.c0
      have k1 := K6.c1
      have k2 := K6.c2
      have k3 := K6.c3
      have x0 := D6.c0
      have x1 := D6.c1
      have x2 := D6.c2
      have x3 := D6.c3
      have xf := D6.f
      have y0 := N6.c0
      have y1 := N6.c1
      have y2 := N6.c2
      have y3 := N6.c3
      go_wp2
      clear x0 x1 x2 x3 xf
      have D9 := D6.put (.int .i64 zC.r) (.int .i64 zC.g) (.int .i64 zC.b) (.int .i64 zC.a)
      have B06 : Below w.heap.size w (set4 w6 (w.heap.size + 1 + 1) (.int .i64 zC.r) (.int .i64 zC.g) (.int .i64 zC.b) (.int .i64 zC.a)) := BX6.trans ((only_set4 w6 (w.heap.size + 1 + 1) _ _ _ _).below (by omega) BX6.size)
      unfold set4 at D9 B06
      have r0 := D9.c0
      have r1 := D9.c1
      have r2 := D9.c2
      have r3 := D9.c3
      exact bodyPost_ret (v := .tuple #[.agg #[.int .i64 zC.r, .int .i64 zC.g, .int .i64 zC.b, .int .i64 zC.a], .bool false]) (by simp [results, Try.results41, go_sem, r0, r1, r2, r3]) rfl ⟨rfl, B06⟩
  clear HKEY
  rw [if_pos rfl]
  have HO1 := Hid.mk ok1
  have H2 := Hid.mk h2
  clear ok1 h2
  by_cases hr0 : r = 0
  · rw [if_pos hr0]
    clear H2 HO1
    go_enter Try.func41, Try.ntmps41
    go_upto_region 1 with fail
    rw [HV0.out]
    clear HV0
    go_upto_region 4 with (first | (go_at_call 67; refine (HG.out _).mono ?_; rintro e9 w9 ⟨rfl, hw⟩; subst w9) | (go_at_call 70; refine (HSP.out _).mono ?_; rintro e9 w9 ⟨rfl, hw⟩; subst w9))
    have T2 := T0
    have K2 := K0
    have D2 := D0
    have BX := BX0
    clear t0 k0 x0 t1 k1 x1 t2 k2 x2 t3 k3 x3 xf T0 K0 D0 BX0
    go_cut [16, 17] (fun pv bv wx => ∃ ab : Nat, pv = .pointer (some ⟨ab, 0, none⟩) ∧ bv = .bool true ∧ C4 wx ab (.int .i64 q1.r) (.int .i64 q1.g) (.int .i64 q1.b) (.int .i64 q1.a) ∧ Below V0.heap.size V0 wx ∧ V0.heap.size ≤ ab)
    case first =>
      have TA := T2
      have KA := K2
      generalize hWW : V0.drew = WX
      have TA := TA.next (below_drew (Below.refl _ _))
      have KA := KA.next (below_drew (Below.refl _ _))
      have BX := below_drew BX
      have BX2 : Below V0.heap.size V0 V0.drew := below_drew (Below.refl _ _)
      rw [hWW] at TA KA BX BX2
      refine wp_region_held_drew (S := fun v => Below WX.heap.size WX v) (by kernel_rfl) (by rw [hWW]; exact Below.refl _ _) (fun hH => ?_)
      rw [hWW] at hH ⊢
      clear hWW
      refine wpAnyH_take (i := 0) (oi := { dst := some 43, op := Op.load 43 (Operand.tmp 6), type := 43, pos := "l16_texture.go:163", after := #[], guard := none }) (v := .agg #[.int .i64 s, .int .i64 y, .int .i64 l, .slice ad n cp]) rfl (by kernel_rfl) (by kernel_rfl) (by kernel_rfl) (fun _ _ _ h => h) (Or.inl ⟨by rfl, fun w0 hSw => by ((have e0 := cell_nx TA.c0 hSw); (have e1 := cell_nx TA.c1 hSw); (have e2 := cell_nx TA.c2 hSw); (have e3 := cell_nx TA.c3 hSw); go_simp)⟩) hH ?_
      simp only [Act.put, List.setIfInBounds_toArray, List.set_cons_zero, List.set_cons_succ]
      refine wpAnyH_take (i := 1) (oi := { dst := some 44, op := Op.move (Operand.tmp 14), type := 3, pos := "l16_texture.go:163", after := #[], guard := none }) (v := .int .i64 Lk) rfl (by kernel_rfl) (by kernel_rfl) (by kernel_rfl) (fun _ _ _ h => h) (Or.inl ⟨by rfl, fun w0 hSw => by (go_simp <;> first | exact (IntKind.wrap_i64 _).trans (by omega) | omega)⟩) hH ?_
      simp only [Act.put, List.setIfInBounds_toArray, List.set_cons_zero, List.set_cons_succ]
      refine wpAnyH_take (i := 2) (oi := { dst := some 45, op := Op.move (Operand.tmp 2), type := 3, pos := "l16_texture.go:163", after := #[], guard := none }) (v := .int .i64 su) rfl (by kernel_rfl) (by kernel_rfl) (by kernel_rfl) (fun _ _ _ h => h) (Or.inl ⟨by rfl, fun w0 hSw => by (go_simp)⟩) hH ?_
      simp only [Act.put, List.setIfInBounds_toArray, List.set_cons_zero, List.set_cons_succ]
      refine wpAnyH_take (i := 3) (oi := { dst := some 46, op := Op.move (Operand.tmp 14), type := 3, pos := "l16_texture.go:163", after := #[], guard := none }) (v := .int .i64 Lk) rfl (by kernel_rfl) (by kernel_rfl) (by kernel_rfl) (fun _ _ _ h => h) (Or.inl ⟨by rfl, fun w0 hSw => by (go_simp <;> first | exact (IntKind.wrap_i64 _).trans (by omega) | omega)⟩) hH ?_
      simp only [Act.put, List.setIfInBounds_toArray, List.set_cons_zero, List.set_cons_succ]
      refine wpAnyH_take (i := 4) (oi := { dst := some 47, op := Op.binOp BinOp.shr 3 (Operand.tmp 45) (Operand.tmp 46) 3, type := 3, pos := "l16_texture.go:163", after := #[{ on := 2, ground := Ground.data }, { on := 3, ground := Ground.data }], guard := none }) (v := .int .i64 U) rfl (by kernel_rfl) (by kernel_rfl) (by kernel_rfl) (fun _ _ _ h => h) (Or.inl ⟨by rfl, fun w0 hSw => by ((first | (go_simp; rw [HSU.out]; rfl) | (go_simp; exact HSU.out) | (go_simp; simp [HSU.out]; done) | (go_simp; exact HSUQ.out) | (go_simp; trace_state; fail)))⟩) hH ?_
      simp only [Act.put, List.setIfInBounds_toArray, List.set_cons_zero, List.set_cons_succ]
      refine wpAnyH_take (i := 5) (oi := { dst := some 48, op := Op.move (Operand.tmp 3), type := 3, pos := "l16_texture.go:163", after := #[], guard := none }) (v := .int .i64 sv) rfl (by kernel_rfl) (by kernel_rfl) (by kernel_rfl) (fun _ _ _ h => h) (Or.inl ⟨by rfl, fun w0 hSw => by (go_simp)⟩) hH ?_
      simp only [Act.put, List.setIfInBounds_toArray, List.set_cons_zero, List.set_cons_succ]
      refine wpAnyH_take (i := 6) (oi := { dst := some 49, op := Op.move (Operand.tmp 14), type := 3, pos := "l16_texture.go:163", after := #[], guard := none }) (v := .int .i64 Lk) rfl (by kernel_rfl) (by kernel_rfl) (by kernel_rfl) (fun _ _ _ h => h) (Or.inl ⟨by rfl, fun w0 hSw => by (go_simp <;> first | exact (IntKind.wrap_i64 _).trans (by omega) | omega)⟩) hH ?_
      simp only [Act.put, List.setIfInBounds_toArray, List.set_cons_zero, List.set_cons_succ]
      refine wpAnyH_take (i := 7) (oi := { dst := some 50, op := Op.binOp BinOp.shr 3 (Operand.tmp 48) (Operand.tmp 49) 3, type := 3, pos := "l16_texture.go:163", after := #[{ on := 5, ground := Ground.data }, { on := 6, ground := Ground.data }], guard := none }) (v := .int .i64 V) rfl (by kernel_rfl) (by kernel_rfl) (by kernel_rfl) (fun _ _ _ h => h) (Or.inl ⟨by rfl, fun w0 hSw => by ((first | (go_simp; rw [HSV.out]; rfl) | (go_simp; exact HSV.out) | (go_simp; simp [HSV.out]; done) | (go_simp; exact HSVQ.out) | (go_simp; trace_state; fail)))⟩) hH ?_
      simp only [Act.put, List.setIfInBounds_toArray, List.set_cons_zero, List.set_cons_succ]
      refine wpAnyH_take (i := 8) (oi := { dst := some 51, op := Op.move (Operand.tmp 4), type := 3, pos := "l16_texture.go:163", after := #[], guard := none }) (v := .int .i64 e) rfl (by kernel_rfl) (by kernel_rfl) (by kernel_rfl) (fun _ _ _ h => h) (Or.inl ⟨by rfl, fun w0 hSw => by (go_simp)⟩) hH ?_
      simp only [Act.put, List.setIfInBounds_toArray, List.set_cons_zero, List.set_cons_succ]
      refine wpAnyH_take (i := 9) (oi := { dst := some 52, op := Op.load 25 (Operand.tmp 11), type := 25, pos := "l16_texture.go:163", after := #[], guard := none }) (v := .agg #[.int .i64 c.r, .int .i64 c.g, .int .i64 c.b, .int .i64 c.a]) rfl (by kernel_rfl) (by kernel_rfl) (by kernel_rfl) (fun _ _ _ h => h) (Or.inl ⟨by rfl, fun w0 hSw => by ((have e0 := cell_nx KA.c0 hSw); (have e1 := cell_nx KA.c1 hSw); (have e2 := cell_nx KA.c2 hSw); (have e3 := cell_nx KA.c3 hSw); go_simp)⟩) hH ?_
      simp only [Act.put, List.setIfInBounds_toArray, List.set_cons_zero, List.set_cons_succ]
      refine wpAnyH_ready (rs := [10, 14]) (by kernel_rfl) (by simp) ?_
      refine (AllReadyH.cons (o := { dst := some 53, op := Op.call { callee := Callee.value (Operand.func 39), args := #[Operand.tmp 43, Operand.tmp 44, Operand.tmp 47, Operand.tmp 50, Operand.tmp 51, Operand.tmp 52], argTypes := #[43, 3, 3, 3, 3, 25] }, type := 33, pos := "l16_texture.go:163", after := #[{ on := 0, ground := Ground.data }, { on := 1, ground := Ground.data }, { on := 4, ground := Ground.data }, { on := 7, ground := Ground.data }, { on := 8, ground := Ground.data }, { on := 9, ground := Ground.data }], guard := none }) rfl (fun K hK => ?_) (AllReadyH.cons (o := { dst := some 16, op := Op.alloc 25, type := 0, pos := "l16_texture.go:163", after := #[], guard := none }) rfl (fun K hK => ?_) AllReadyH.nil))
      · refine step_callC 39 #[.agg #[.int .i64 s, .int .i64 y, .int .i64 l, .slice ad n cp], .int .i64 Lk, .int .i64 U, .int .i64 V, .int .i64 e, .agg #[.int .i64 c.r, .int .i64 c.g, .int .i64 c.b, .int .i64 c.a]] (fun z v w' => z = .tuple #[.agg #[.int .i64 q1.r, .int .i64 q1.g, .int .i64 q1.b, .int .i64 q1.a], .bool true] ∧ Below v.heap.size v w') (by rfl) (by go_simp) ((HS1.out _ (BX.trans (hH.mono BX.size))).mono fun e w' ⟨h1, h2⟩ => ⟨_, h1, rfl, h2⟩) ?_
        rintro z7 wC ⟨rfl, B7⟩
        simp only [Act.put, List.setIfInBounds_toArray, List.set_cons_zero, List.set_cons_succ]
        refine hK.out _ _ (hH.trans (B7.mono hH.size)) (fun hH' => ?_)
        clear hK K
        replace hH := hH'
        clear hH' 
        clear B7
        refine wpAnyH_take (i := 11) (oi := { dst := some 42, op := Op.move (Operand.tmp 53), type := 33, pos := "l16_texture.go:163", after := #[{ on := 10, ground := Ground.data }], guard := none }) (v := .tuple #[.agg #[.int .i64 q1.r, .int .i64 q1.g, .int .i64 q1.b, .int .i64 q1.a], .bool true]) rfl (by kernel_rfl) (by kernel_rfl) (by kernel_rfl) (fun _ _ _ h => h) (Or.inl ⟨by rfl, fun w0 hSw => by (go_simp)⟩) hH ?_
        simp only [Act.put, List.setIfInBounds_toArray, List.set_cons_zero, List.set_cons_succ]
        refine wpAnyH_take (i := 12) (oi := { dst := some 54, op := Op.extract (Operand.tmp 42) 0, type := 25, pos := "l16_texture.go:163", after := #[{ on := 11, ground := Ground.data }], guard := none }) (v := .agg #[.int .i64 q1.r, .int .i64 q1.g, .int .i64 q1.b, .int .i64 q1.a]) rfl (by kernel_rfl) (by kernel_rfl) (by kernel_rfl) (fun _ _ _ h => h) (Or.inl ⟨by rfl, fun w0 hSw => by (go_simp)⟩) hH ?_
        simp only [Act.put, List.setIfInBounds_toArray, List.set_cons_zero, List.set_cons_succ]
        refine wpAnyH_take (i := 13) (oi := { dst := some 55, op := Op.extract (Operand.tmp 42) 1, type := 4, pos := "l16_texture.go:163", after := #[{ on := 11, ground := Ground.data }, { on := 15, ground := Ground.gcOnly Departure.lateStores }], guard := none }) (v := .bool true) rfl (by kernel_rfl) (by kernel_rfl) (by kernel_rfl) (fun _ _ _ h => h) (Or.inl ⟨by rfl, fun w0 hSw => by (go_simp)⟩) hH ?_
        simp only [Act.put, List.setIfInBounds_toArray, List.set_cons_zero, List.set_cons_succ]
        refine wpAnyH_ready (rs := [14]) (by kernel_rfl) (by simp) ?_
        refine (AllReadyH.cons (o := { dst := some 16, op := Op.alloc 25, type := 0, pos := "l16_texture.go:163", after := #[], guard := none }) rfl (fun K hK => ?_) AllReadyH.nil)
        refine step_val (.pointer (some ⟨wC.heap.size, 0, none⟩)) (wC.alloc (.cells #[.int .i64 0, .int .i64 0, .int .i64 0, .int .i64 0] 25)) (by rfl) (by go_simp) ?_
        have D8 := C4.new wC 25 (.int .i64 0) (.int .i64 0) (.int .i64 0) (.int .i64 0)
        have hD8 : WX.heap.size ≤ wC.heap.size := hH.size
        simp only [Act.put, List.setIfInBounds_toArray, List.set_cons_zero, List.set_cons_succ]
        refine hK.out _ _ (hH.trans (alloc_b.mono hH.size)) (fun hH' => ?_)
        clear hK K
        replace hH := hH'
        clear hH' 
        generalize wC.alloc (.cells #[.int .i64 0, .int .i64 0, .int .i64 0, .int .i64 0] 25) = wN at D8 hH ⊢
        refine wpAnyH_ready (rs := [15]) (by kernel_rfl) (by simp) ?_
        refine (AllReadyH.cons (o := { dst := none, op := Op.store 25 (Operand.tmp 16) (Operand.tmp 54), type := 0, pos := "l16_texture.go:163", after := #[{ on := 14, ground := Ground.data }, { on := 12, ground := Ground.data }, { on := 10, ground := Ground.chain }, { on := 0, ground := Ground.phase }, { on := 1, ground := Ground.phase }, { on := 2, ground := Ground.phase }, { on := 3, ground := Ground.phase }, { on := 4, ground := Ground.phase }, { on := 5, ground := Ground.phase }, { on := 6, ground := Ground.phase }, { on := 7, ground := Ground.phase }, { on := 8, ground := Ground.phase }, { on := 9, ground := Ground.phase }, { on := 10, ground := Ground.phase }, { on := 11, ground := Ground.phase }, { on := 12, ground := Ground.phase }, { on := 13, ground := Ground.textOnly Departure.lateStores }, { on := 14, ground := Ground.phase }], guard := none }) rfl (fun K hK => ?_) AllReadyH.nil)
        have s0 := D8.c0
        have s1 := D8.c1
        have s2 := D8.c2
        have s3 := D8.c3
        have sf := D8.f
        refine step_skip (set4 wN (wC.heap.size) (.int .i64 q1.r) (.int .i64 q1.g) (.int .i64 q1.b) (.int .i64 q1.a)) (by rfl) (by unfold set4; go_simp) ?_
        have D9 := D8.put (.int .i64 q1.r) (.int .i64 q1.g) (.int .i64 q1.b) (.int .i64 q1.a)
        have B9 : Below WX.heap.size WX (set4 wN (wC.heap.size) (.int .i64 q1.r) (.int .i64 q1.g) (.int .i64 q1.b) (.int .i64 q1.a)) := hH.trans ((only_set4 wN (wC.heap.size) (.int .i64 q1.r) (.int .i64 q1.g) (.int .i64 q1.b) (.int .i64 q1.a)).below hD8 hH.size)
        refine hK.out _ _ B9 (fun hH' => ?_)
        clear hK K
        replace hH := hH'
        clear hH' s0 s1 s2 s3 sf D8
        refine wpAnyH_take (i := 16) (oi := { dst := some 17, op := Op.assign (Operand.tmp 55), type := 4, pos := "l16_texture.go:163", after := #[{ on := 13, ground := Ground.data }, { on := 15, ground := Ground.chain }, { on := 0, ground := Ground.phase }, { on := 1, ground := Ground.phase }, { on := 2, ground := Ground.phase }, { on := 3, ground := Ground.phase }, { on := 4, ground := Ground.phase }, { on := 5, ground := Ground.phase }, { on := 6, ground := Ground.phase }, { on := 7, ground := Ground.phase }, { on := 8, ground := Ground.phase }, { on := 9, ground := Ground.phase }, { on := 10, ground := Ground.phase }, { on := 11, ground := Ground.phase }, { on := 12, ground := Ground.phase }, { on := 13, ground := Ground.phase }, { on := 14, ground := Ground.phase }, { on := 15, ground := Ground.phase }], guard := none }) (v := .bool true) rfl (by kernel_rfl) (by kernel_rfl) (by kernel_rfl) (fun _ _ _ h => h) (Or.inl ⟨by rfl, fun w0 hSw => by (go_simp)⟩) hH ?_
        simp only [Act.put, List.setIfInBounds_toArray, List.set_cons_zero, List.set_cons_succ]
        refine wpAnyH_done (by kernel_rfl) ?_ _
        go_wp2_with fail
        go_meet
        case rel => exact ⟨wC.heap.size, rfl, rfl, D9, BX2.trans (B9.mono BX2.size), Nat.le_trans BX2.size hD8⟩
      · refine step_val (.pointer (some ⟨WX.heap.size, 0, none⟩)) (WX.alloc (.cells #[.int .i64 0, .int .i64 0, .int .i64 0, .int .i64 0] 25)) (by rfl) (by go_simp) ?_
        have D8 := C4.new WX 25 (.int .i64 0) (.int .i64 0) (.int .i64 0) (.int .i64 0)
        have hD8 : WX.heap.size ≤ WX.heap.size := hH.size
        simp only [Act.put, List.setIfInBounds_toArray, List.set_cons_zero, List.set_cons_succ]
        refine hK.out _ _ (hH.trans (alloc_b.mono hH.size)) (fun hH' => ?_)
        clear hK K
        replace hH := hH'
        clear hH' 
        generalize WX.alloc (.cells #[.int .i64 0, .int .i64 0, .int .i64 0, .int .i64 0] 25) = wN at D8 hH ⊢
        refine wpAnyH_ready (rs := [10]) (by kernel_rfl) (by simp) ?_
        refine (AllReadyH.cons (o := { dst := some 53, op := Op.call { callee := Callee.value (Operand.func 39), args := #[Operand.tmp 43, Operand.tmp 44, Operand.tmp 47, Operand.tmp 50, Operand.tmp 51, Operand.tmp 52], argTypes := #[43, 3, 3, 3, 3, 25] }, type := 33, pos := "l16_texture.go:163", after := #[{ on := 0, ground := Ground.data }, { on := 1, ground := Ground.data }, { on := 4, ground := Ground.data }, { on := 7, ground := Ground.data }, { on := 8, ground := Ground.data }, { on := 9, ground := Ground.data }], guard := none }) rfl (fun K hK => ?_) AllReadyH.nil)
        refine step_callC 39 #[.agg #[.int .i64 s, .int .i64 y, .int .i64 l, .slice ad n cp], .int .i64 Lk, .int .i64 U, .int .i64 V, .int .i64 e, .agg #[.int .i64 c.r, .int .i64 c.g, .int .i64 c.b, .int .i64 c.a]] (fun z v w' => z = .tuple #[.agg #[.int .i64 q1.r, .int .i64 q1.g, .int .i64 q1.b, .int .i64 q1.a], .bool true] ∧ Below v.heap.size v w') (by rfl) (by go_simp) ((HS1.out _ (BX.trans (hH.mono BX.size))).mono fun e w' ⟨h1, h2⟩ => ⟨_, h1, rfl, h2⟩) ?_
        rintro z7 wC ⟨rfl, B7⟩
        replace D8 := D8.next B7
        simp only [Act.put, List.setIfInBounds_toArray, List.set_cons_zero, List.set_cons_succ]
        refine hK.out _ _ (hH.trans (B7.mono hH.size)) (fun hH' => ?_)
        clear hK K
        replace hH := hH'
        clear hH' 
        clear B7
        refine wpAnyH_take (i := 11) (oi := { dst := some 42, op := Op.move (Operand.tmp 53), type := 33, pos := "l16_texture.go:163", after := #[{ on := 10, ground := Ground.data }], guard := none }) (v := .tuple #[.agg #[.int .i64 q1.r, .int .i64 q1.g, .int .i64 q1.b, .int .i64 q1.a], .bool true]) rfl (by kernel_rfl) (by kernel_rfl) (by kernel_rfl) (fun _ _ _ h => h) (Or.inl ⟨by rfl, fun w0 hSw => by (go_simp)⟩) hH ?_
        simp only [Act.put, List.setIfInBounds_toArray, List.set_cons_zero, List.set_cons_succ]
        refine wpAnyH_take (i := 12) (oi := { dst := some 54, op := Op.extract (Operand.tmp 42) 0, type := 25, pos := "l16_texture.go:163", after := #[{ on := 11, ground := Ground.data }], guard := none }) (v := .agg #[.int .i64 q1.r, .int .i64 q1.g, .int .i64 q1.b, .int .i64 q1.a]) rfl (by kernel_rfl) (by kernel_rfl) (by kernel_rfl) (fun _ _ _ h => h) (Or.inl ⟨by rfl, fun w0 hSw => by (go_simp)⟩) hH ?_
        simp only [Act.put, List.setIfInBounds_toArray, List.set_cons_zero, List.set_cons_succ]
        refine wpAnyH_take (i := 13) (oi := { dst := some 55, op := Op.extract (Operand.tmp 42) 1, type := 4, pos := "l16_texture.go:163", after := #[{ on := 11, ground := Ground.data }, { on := 15, ground := Ground.gcOnly Departure.lateStores }], guard := none }) (v := .bool true) rfl (by kernel_rfl) (by kernel_rfl) (by kernel_rfl) (fun _ _ _ h => h) (Or.inl ⟨by rfl, fun w0 hSw => by (go_simp)⟩) hH ?_
        simp only [Act.put, List.setIfInBounds_toArray, List.set_cons_zero, List.set_cons_succ]
        refine wpAnyH_ready (rs := [15]) (by kernel_rfl) (by simp) ?_
        refine (AllReadyH.cons (o := { dst := none, op := Op.store 25 (Operand.tmp 16) (Operand.tmp 54), type := 0, pos := "l16_texture.go:163", after := #[{ on := 14, ground := Ground.data }, { on := 12, ground := Ground.data }, { on := 10, ground := Ground.chain }, { on := 0, ground := Ground.phase }, { on := 1, ground := Ground.phase }, { on := 2, ground := Ground.phase }, { on := 3, ground := Ground.phase }, { on := 4, ground := Ground.phase }, { on := 5, ground := Ground.phase }, { on := 6, ground := Ground.phase }, { on := 7, ground := Ground.phase }, { on := 8, ground := Ground.phase }, { on := 9, ground := Ground.phase }, { on := 10, ground := Ground.phase }, { on := 11, ground := Ground.phase }, { on := 12, ground := Ground.phase }, { on := 13, ground := Ground.textOnly Departure.lateStores }, { on := 14, ground := Ground.phase }], guard := none }) rfl (fun K hK => ?_) AllReadyH.nil)
        have s0 := D8.c0
        have s1 := D8.c1
        have s2 := D8.c2
        have s3 := D8.c3
        have sf := D8.f
        refine step_skip (set4 wC (WX.heap.size) (.int .i64 q1.r) (.int .i64 q1.g) (.int .i64 q1.b) (.int .i64 q1.a)) (by rfl) (by unfold set4; go_simp) ?_
        have D9 := D8.put (.int .i64 q1.r) (.int .i64 q1.g) (.int .i64 q1.b) (.int .i64 q1.a)
        have B9 : Below WX.heap.size WX (set4 wC (WX.heap.size) (.int .i64 q1.r) (.int .i64 q1.g) (.int .i64 q1.b) (.int .i64 q1.a)) := hH.trans ((only_set4 wC (WX.heap.size) (.int .i64 q1.r) (.int .i64 q1.g) (.int .i64 q1.b) (.int .i64 q1.a)).below hD8 hH.size)
        refine hK.out _ _ B9 (fun hH' => ?_)
        clear hK K
        replace hH := hH'
        clear hH' s0 s1 s2 s3 sf D8
        refine wpAnyH_take (i := 16) (oi := { dst := some 17, op := Op.assign (Operand.tmp 55), type := 4, pos := "l16_texture.go:163", after := #[{ on := 13, ground := Ground.data }, { on := 15, ground := Ground.chain }, { on := 0, ground := Ground.phase }, { on := 1, ground := Ground.phase }, { on := 2, ground := Ground.phase }, { on := 3, ground := Ground.phase }, { on := 4, ground := Ground.phase }, { on := 5, ground := Ground.phase }, { on := 6, ground := Ground.phase }, { on := 7, ground := Ground.phase }, { on := 8, ground := Ground.phase }, { on := 9, ground := Ground.phase }, { on := 10, ground := Ground.phase }, { on := 11, ground := Ground.phase }, { on := 12, ground := Ground.phase }, { on := 13, ground := Ground.phase }, { on := 14, ground := Ground.phase }, { on := 15, ground := Ground.phase }], guard := none }) (v := .bool true) rfl (by kernel_rfl) (by kernel_rfl) (by kernel_rfl) (fun _ _ _ h => h) (Or.inl ⟨by rfl, fun w0 hSw => by (go_simp)⟩) hH ?_
        simp only [Act.put, List.setIfInBounds_toArray, List.set_cons_zero, List.set_cons_succ]
        refine wpAnyH_done (by kernel_rfl) ?_ _
        go_wp2_with fail
        go_meet
        case rel => exact ⟨WX.heap.size, rfl, rfl, D9, BX2.trans (B9.mono BX2.size), Nat.le_trans BX2.size hD8⟩
    case rest =>
      obtain ⟨nb, rfl, rfl, N6, B6, hnb⟩ := hcut
      have T6 := T2.next B6
      have K6 := K2.next B6
      have D6 := D2.next B6
      have BX6 := BX.trans (B6.mono BX.size)
      clear BX T2 K2 D2 B6
      generalize hwc : wc = w6 at *
      clear hwc
      have t0 := T6.c0
      have t1 := T6.c1
      have t2 := T6.c2
      have t3 := T6.c3
      have k0 := K6.c0
      have k1 := K6.c1
      have k2 := K6.c2
      have k3 := K6.c3
      have x0 := D6.c0
      have x1 := D6.c1
      have x2 := D6.c2
      have x3 := D6.c3
      have xf := D6.f
      have y0 := N6.c0
      have y1 := N6.c1
      have y2 := N6.c2
      have y3 := N6.c3
      go_wp2
      clear x0 x1 x2 x3 xf
      have D9 := D6.put (.int .i64 q1.r) (.int .i64 q1.g) (.int .i64 q1.b) (.int .i64 q1.a)
      have B06 : Below w.heap.size w (set4 w6 (w.heap.size + 1 + 1) (.int .i64 q1.r) (.int .i64 q1.g) (.int .i64 q1.b) (.int .i64 q1.a)) := BX6.trans ((only_set4 w6 (w.heap.size + 1 + 1) _ _ _ _).below (by omega) BX6.size)
      unfold set4 at D9 B06
      have r0 := D9.c0
      have r1 := D9.c1
      have r2 := D9.c2
      have r3 := D9.c3
      exact bodyPost_ret (v := .tuple #[.agg #[.int .i64 q1.r, .int .i64 q1.g, .int .i64 q1.b, .int .i64 q1.a], .bool true]) (by simp [results, Try.results41, go_sem, r0, r1, r2, r3]) rfl ⟨rfl, B06⟩
  rw [if_neg hr0]
  obtain ⟨rfl, rfl, ok2⟩ := H2.out hr0
  have HO2 := Hid.mk ok2
  clear H2 ok2
  obtain ⟨QQ, hQQ⟩ : ∃ z, blC 2 (t2C q1 q2) (t2T (256 - r) r) = z := ⟨_, rfl⟩
  rw [hQQ]
  have HBL : Hid (∀ w' vv, PRow w' vv 2 (t2C q1 q2) (t2T (256 - r) r) → Calls Try.prog 71 #[vv] w' fun e' w'' => e' = .returned (colV QQ) ∧ Below w'.heap.size w' w'') := fun w' vv R1 => by
    have h := pblend 2 (t2C q1 q2) (t2T (256 - r) r) vv w' R1 (by decide) (fun i _ => t2_ok HO1.out HO2.out i) (fun i _ => t2_bnd ⟨by omega, by omega⟩ ⟨by omega, by omega⟩ i) (by rw [t2_al]; omega)
    rwa [hQQ] at h
  unfold colV at HBL
  have hwr : IntKind.i64.wrap (256 - r) = 256 - r := (IntKind.wrap_i64 _).trans (by omega)
  clear hQQ HO1 HO2
  go_enter Try.func41, Try.ntmps41
  go_upto_region 1 with fail
  rw [HV0.out]
  clear HV0
  go_upto_region 4 with (first | (go_at_call 67; refine (HG.out _).mono ?_; rintro e9 w9 ⟨rfl, hw⟩; subst w9) | (go_at_call 70; refine (HSP.out _).mono ?_; rintro e9 w9 ⟨rfl, hw⟩; subst w9))
  have T2 := T0
  have K2 := K0
  have D2 := D0
  have BX := BX0
  clear t0 k0 x0 t1 k1 x1 t2 k2 x2 t3 k3 x3 xf T0 K0 D0 BX0
  go_cut [16, 17] (fun pv bv wx => ∃ ab : Nat, pv = .pointer (some ⟨ab, 0, none⟩) ∧ bv = .bool true ∧ C4 wx ab (.int .i64 q1.r) (.int .i64 q1.g) (.int .i64 q1.b) (.int .i64 q1.a) ∧ Below V0.heap.size V0 wx ∧ V0.heap.size ≤ ab)
  case first =>
    have TA := T2
    have KA := K2
    generalize hWW : V0.drew = WX
    have TA := TA.next (below_drew (Below.refl _ _))
    have KA := KA.next (below_drew (Below.refl _ _))
    have BX := below_drew BX
    have BX2 : Below V0.heap.size V0 V0.drew := below_drew (Below.refl _ _)
    rw [hWW] at TA KA BX BX2
    refine wp_region_held_drew (S := fun v => Below WX.heap.size WX v) (by kernel_rfl) (by rw [hWW]; exact Below.refl _ _) (fun hH => ?_)
    rw [hWW] at hH ⊢
    clear hWW
    refine wpAnyH_take (i := 0) (oi := { dst := some 43, op := Op.load 43 (Operand.tmp 6), type := 43, pos := "l16_texture.go:163", after := #[], guard := none }) (v := .agg #[.int .i64 s, .int .i64 y, .int .i64 l, .slice ad n cp]) rfl (by kernel_rfl) (by kernel_rfl) (by kernel_rfl) (fun _ _ _ h => h) (Or.inl ⟨by rfl, fun w0 hSw => by ((have e0 := cell_nx TA.c0 hSw); (have e1 := cell_nx TA.c1 hSw); (have e2 := cell_nx TA.c2 hSw); (have e3 := cell_nx TA.c3 hSw); go_simp)⟩) hH ?_
    simp only [Act.put, List.setIfInBounds_toArray, List.set_cons_zero, List.set_cons_succ]
    refine wpAnyH_take (i := 1) (oi := { dst := some 44, op := Op.move (Operand.tmp 14), type := 3, pos := "l16_texture.go:163", after := #[], guard := none }) (v := .int .i64 Lk) rfl (by kernel_rfl) (by kernel_rfl) (by kernel_rfl) (fun _ _ _ h => h) (Or.inl ⟨by rfl, fun w0 hSw => by (go_simp <;> first | exact (IntKind.wrap_i64 _).trans (by omega) | omega)⟩) hH ?_
    simp only [Act.put, List.setIfInBounds_toArray, List.set_cons_zero, List.set_cons_succ]
    refine wpAnyH_take (i := 2) (oi := { dst := some 45, op := Op.move (Operand.tmp 2), type := 3, pos := "l16_texture.go:163", after := #[], guard := none }) (v := .int .i64 su) rfl (by kernel_rfl) (by kernel_rfl) (by kernel_rfl) (fun _ _ _ h => h) (Or.inl ⟨by rfl, fun w0 hSw => by (go_simp)⟩) hH ?_
    simp only [Act.put, List.setIfInBounds_toArray, List.set_cons_zero, List.set_cons_succ]
    refine wpAnyH_take (i := 3) (oi := { dst := some 46, op := Op.move (Operand.tmp 14), type := 3, pos := "l16_texture.go:163", after := #[], guard := none }) (v := .int .i64 Lk) rfl (by kernel_rfl) (by kernel_rfl) (by kernel_rfl) (fun _ _ _ h => h) (Or.inl ⟨by rfl, fun w0 hSw => by (go_simp <;> first | exact (IntKind.wrap_i64 _).trans (by omega) | omega)⟩) hH ?_
    simp only [Act.put, List.setIfInBounds_toArray, List.set_cons_zero, List.set_cons_succ]
    refine wpAnyH_take (i := 4) (oi := { dst := some 47, op := Op.binOp BinOp.shr 3 (Operand.tmp 45) (Operand.tmp 46) 3, type := 3, pos := "l16_texture.go:163", after := #[{ on := 2, ground := Ground.data }, { on := 3, ground := Ground.data }], guard := none }) (v := .int .i64 U) rfl (by kernel_rfl) (by kernel_rfl) (by kernel_rfl) (fun _ _ _ h => h) (Or.inl ⟨by rfl, fun w0 hSw => by ((first | (go_simp; rw [HSU.out]; rfl) | (go_simp; exact HSU.out) | (go_simp; simp [HSU.out]; done) | (go_simp; exact HSUQ.out) | (go_simp; trace_state; fail)))⟩) hH ?_
    simp only [Act.put, List.setIfInBounds_toArray, List.set_cons_zero, List.set_cons_succ]
    refine wpAnyH_take (i := 5) (oi := { dst := some 48, op := Op.move (Operand.tmp 3), type := 3, pos := "l16_texture.go:163", after := #[], guard := none }) (v := .int .i64 sv) rfl (by kernel_rfl) (by kernel_rfl) (by kernel_rfl) (fun _ _ _ h => h) (Or.inl ⟨by rfl, fun w0 hSw => by (go_simp)⟩) hH ?_
    simp only [Act.put, List.setIfInBounds_toArray, List.set_cons_zero, List.set_cons_succ]
    refine wpAnyH_take (i := 6) (oi := { dst := some 49, op := Op.move (Operand.tmp 14), type := 3, pos := "l16_texture.go:163", after := #[], guard := none }) (v := .int .i64 Lk) rfl (by kernel_rfl) (by kernel_rfl) (by kernel_rfl) (fun _ _ _ h => h) (Or.inl ⟨by rfl, fun w0 hSw => by (go_simp <;> first | exact (IntKind.wrap_i64 _).trans (by omega) | omega)⟩) hH ?_
    simp only [Act.put, List.setIfInBounds_toArray, List.set_cons_zero, List.set_cons_succ]
    refine wpAnyH_take (i := 7) (oi := { dst := some 50, op := Op.binOp BinOp.shr 3 (Operand.tmp 48) (Operand.tmp 49) 3, type := 3, pos := "l16_texture.go:163", after := #[{ on := 5, ground := Ground.data }, { on := 6, ground := Ground.data }], guard := none }) (v := .int .i64 V) rfl (by kernel_rfl) (by kernel_rfl) (by kernel_rfl) (fun _ _ _ h => h) (Or.inl ⟨by rfl, fun w0 hSw => by ((first | (go_simp; rw [HSV.out]; rfl) | (go_simp; exact HSV.out) | (go_simp; simp [HSV.out]; done) | (go_simp; exact HSVQ.out) | (go_simp; trace_state; fail)))⟩) hH ?_
    simp only [Act.put, List.setIfInBounds_toArray, List.set_cons_zero, List.set_cons_succ]
    refine wpAnyH_take (i := 8) (oi := { dst := some 51, op := Op.move (Operand.tmp 4), type := 3, pos := "l16_texture.go:163", after := #[], guard := none }) (v := .int .i64 e) rfl (by kernel_rfl) (by kernel_rfl) (by kernel_rfl) (fun _ _ _ h => h) (Or.inl ⟨by rfl, fun w0 hSw => by (go_simp)⟩) hH ?_
    simp only [Act.put, List.setIfInBounds_toArray, List.set_cons_zero, List.set_cons_succ]
    refine wpAnyH_take (i := 9) (oi := { dst := some 52, op := Op.load 25 (Operand.tmp 11), type := 25, pos := "l16_texture.go:163", after := #[], guard := none }) (v := .agg #[.int .i64 c.r, .int .i64 c.g, .int .i64 c.b, .int .i64 c.a]) rfl (by kernel_rfl) (by kernel_rfl) (by kernel_rfl) (fun _ _ _ h => h) (Or.inl ⟨by rfl, fun w0 hSw => by ((have e0 := cell_nx KA.c0 hSw); (have e1 := cell_nx KA.c1 hSw); (have e2 := cell_nx KA.c2 hSw); (have e3 := cell_nx KA.c3 hSw); go_simp)⟩) hH ?_
    simp only [Act.put, List.setIfInBounds_toArray, List.set_cons_zero, List.set_cons_succ]
    refine wpAnyH_ready (rs := [10, 14]) (by kernel_rfl) (by simp) ?_
    refine (AllReadyH.cons (o := { dst := some 53, op := Op.call { callee := Callee.value (Operand.func 39), args := #[Operand.tmp 43, Operand.tmp 44, Operand.tmp 47, Operand.tmp 50, Operand.tmp 51, Operand.tmp 52], argTypes := #[43, 3, 3, 3, 3, 25] }, type := 33, pos := "l16_texture.go:163", after := #[{ on := 0, ground := Ground.data }, { on := 1, ground := Ground.data }, { on := 4, ground := Ground.data }, { on := 7, ground := Ground.data }, { on := 8, ground := Ground.data }, { on := 9, ground := Ground.data }], guard := none }) rfl (fun K hK => ?_) (AllReadyH.cons (o := { dst := some 16, op := Op.alloc 25, type := 0, pos := "l16_texture.go:163", after := #[], guard := none }) rfl (fun K hK => ?_) AllReadyH.nil))
    · refine step_callC 39 #[.agg #[.int .i64 s, .int .i64 y, .int .i64 l, .slice ad n cp], .int .i64 Lk, .int .i64 U, .int .i64 V, .int .i64 e, .agg #[.int .i64 c.r, .int .i64 c.g, .int .i64 c.b, .int .i64 c.a]] (fun z v w' => z = .tuple #[.agg #[.int .i64 q1.r, .int .i64 q1.g, .int .i64 q1.b, .int .i64 q1.a], .bool true] ∧ Below v.heap.size v w') (by rfl) (by go_simp) ((HS1.out _ (BX.trans (hH.mono BX.size))).mono fun e w' ⟨h1, h2⟩ => ⟨_, h1, rfl, h2⟩) ?_
      rintro z7 wC ⟨rfl, B7⟩
      simp only [Act.put, List.setIfInBounds_toArray, List.set_cons_zero, List.set_cons_succ]
      refine hK.out _ _ (hH.trans (B7.mono hH.size)) (fun hH' => ?_)
      clear hK K
      replace hH := hH'
      clear hH' 
      clear B7
      refine wpAnyH_take (i := 11) (oi := { dst := some 42, op := Op.move (Operand.tmp 53), type := 33, pos := "l16_texture.go:163", after := #[{ on := 10, ground := Ground.data }], guard := none }) (v := .tuple #[.agg #[.int .i64 q1.r, .int .i64 q1.g, .int .i64 q1.b, .int .i64 q1.a], .bool true]) rfl (by kernel_rfl) (by kernel_rfl) (by kernel_rfl) (fun _ _ _ h => h) (Or.inl ⟨by rfl, fun w0 hSw => by (go_simp)⟩) hH ?_
      simp only [Act.put, List.setIfInBounds_toArray, List.set_cons_zero, List.set_cons_succ]
      refine wpAnyH_take (i := 12) (oi := { dst := some 54, op := Op.extract (Operand.tmp 42) 0, type := 25, pos := "l16_texture.go:163", after := #[{ on := 11, ground := Ground.data }], guard := none }) (v := .agg #[.int .i64 q1.r, .int .i64 q1.g, .int .i64 q1.b, .int .i64 q1.a]) rfl (by kernel_rfl) (by kernel_rfl) (by kernel_rfl) (fun _ _ _ h => h) (Or.inl ⟨by rfl, fun w0 hSw => by (go_simp)⟩) hH ?_
      simp only [Act.put, List.setIfInBounds_toArray, List.set_cons_zero, List.set_cons_succ]
      refine wpAnyH_take (i := 13) (oi := { dst := some 55, op := Op.extract (Operand.tmp 42) 1, type := 4, pos := "l16_texture.go:163", after := #[{ on := 11, ground := Ground.data }, { on := 15, ground := Ground.gcOnly Departure.lateStores }], guard := none }) (v := .bool true) rfl (by kernel_rfl) (by kernel_rfl) (by kernel_rfl) (fun _ _ _ h => h) (Or.inl ⟨by rfl, fun w0 hSw => by (go_simp)⟩) hH ?_
      simp only [Act.put, List.setIfInBounds_toArray, List.set_cons_zero, List.set_cons_succ]
      refine wpAnyH_ready (rs := [14]) (by kernel_rfl) (by simp) ?_
      refine (AllReadyH.cons (o := { dst := some 16, op := Op.alloc 25, type := 0, pos := "l16_texture.go:163", after := #[], guard := none }) rfl (fun K hK => ?_) AllReadyH.nil)
      refine step_val (.pointer (some ⟨wC.heap.size, 0, none⟩)) (wC.alloc (.cells #[.int .i64 0, .int .i64 0, .int .i64 0, .int .i64 0] 25)) (by rfl) (by go_simp) ?_
      have D8 := C4.new wC 25 (.int .i64 0) (.int .i64 0) (.int .i64 0) (.int .i64 0)
      have hD8 : WX.heap.size ≤ wC.heap.size := hH.size
      simp only [Act.put, List.setIfInBounds_toArray, List.set_cons_zero, List.set_cons_succ]
      refine hK.out _ _ (hH.trans (alloc_b.mono hH.size)) (fun hH' => ?_)
      clear hK K
      replace hH := hH'
      clear hH' 
      generalize wC.alloc (.cells #[.int .i64 0, .int .i64 0, .int .i64 0, .int .i64 0] 25) = wN at D8 hH ⊢
      refine wpAnyH_ready (rs := [15]) (by kernel_rfl) (by simp) ?_
      refine (AllReadyH.cons (o := { dst := none, op := Op.store 25 (Operand.tmp 16) (Operand.tmp 54), type := 0, pos := "l16_texture.go:163", after := #[{ on := 14, ground := Ground.data }, { on := 12, ground := Ground.data }, { on := 10, ground := Ground.chain }, { on := 0, ground := Ground.phase }, { on := 1, ground := Ground.phase }, { on := 2, ground := Ground.phase }, { on := 3, ground := Ground.phase }, { on := 4, ground := Ground.phase }, { on := 5, ground := Ground.phase }, { on := 6, ground := Ground.phase }, { on := 7, ground := Ground.phase }, { on := 8, ground := Ground.phase }, { on := 9, ground := Ground.phase }, { on := 10, ground := Ground.phase }, { on := 11, ground := Ground.phase }, { on := 12, ground := Ground.phase }, { on := 13, ground := Ground.textOnly Departure.lateStores }, { on := 14, ground := Ground.phase }], guard := none }) rfl (fun K hK => ?_) AllReadyH.nil)
      have s0 := D8.c0
      have s1 := D8.c1
      have s2 := D8.c2
      have s3 := D8.c3
      have sf := D8.f
      refine step_skip (set4 wN (wC.heap.size) (.int .i64 q1.r) (.int .i64 q1.g) (.int .i64 q1.b) (.int .i64 q1.a)) (by rfl) (by unfold set4; go_simp) ?_
      have D9 := D8.put (.int .i64 q1.r) (.int .i64 q1.g) (.int .i64 q1.b) (.int .i64 q1.a)
      have B9 : Below WX.heap.size WX (set4 wN (wC.heap.size) (.int .i64 q1.r) (.int .i64 q1.g) (.int .i64 q1.b) (.int .i64 q1.a)) := hH.trans ((only_set4 wN (wC.heap.size) (.int .i64 q1.r) (.int .i64 q1.g) (.int .i64 q1.b) (.int .i64 q1.a)).below hD8 hH.size)
      refine hK.out _ _ B9 (fun hH' => ?_)
      clear hK K
      replace hH := hH'
      clear hH' s0 s1 s2 s3 sf D8
      refine wpAnyH_take (i := 16) (oi := { dst := some 17, op := Op.assign (Operand.tmp 55), type := 4, pos := "l16_texture.go:163", after := #[{ on := 13, ground := Ground.data }, { on := 15, ground := Ground.chain }, { on := 0, ground := Ground.phase }, { on := 1, ground := Ground.phase }, { on := 2, ground := Ground.phase }, { on := 3, ground := Ground.phase }, { on := 4, ground := Ground.phase }, { on := 5, ground := Ground.phase }, { on := 6, ground := Ground.phase }, { on := 7, ground := Ground.phase }, { on := 8, ground := Ground.phase }, { on := 9, ground := Ground.phase }, { on := 10, ground := Ground.phase }, { on := 11, ground := Ground.phase }, { on := 12, ground := Ground.phase }, { on := 13, ground := Ground.phase }, { on := 14, ground := Ground.phase }, { on := 15, ground := Ground.phase }], guard := none }) (v := .bool true) rfl (by kernel_rfl) (by kernel_rfl) (by kernel_rfl) (fun _ _ _ h => h) (Or.inl ⟨by rfl, fun w0 hSw => by (go_simp)⟩) hH ?_
      simp only [Act.put, List.setIfInBounds_toArray, List.set_cons_zero, List.set_cons_succ]
      refine wpAnyH_done (by kernel_rfl) ?_ _
      go_wp2_with fail
      go_meet
      case rel => exact ⟨wC.heap.size, rfl, rfl, D9, BX2.trans (B9.mono BX2.size), Nat.le_trans BX2.size hD8⟩
    · refine step_val (.pointer (some ⟨WX.heap.size, 0, none⟩)) (WX.alloc (.cells #[.int .i64 0, .int .i64 0, .int .i64 0, .int .i64 0] 25)) (by rfl) (by go_simp) ?_
      have D8 := C4.new WX 25 (.int .i64 0) (.int .i64 0) (.int .i64 0) (.int .i64 0)
      have hD8 : WX.heap.size ≤ WX.heap.size := hH.size
      simp only [Act.put, List.setIfInBounds_toArray, List.set_cons_zero, List.set_cons_succ]
      refine hK.out _ _ (hH.trans (alloc_b.mono hH.size)) (fun hH' => ?_)
      clear hK K
      replace hH := hH'
      clear hH' 
      generalize WX.alloc (.cells #[.int .i64 0, .int .i64 0, .int .i64 0, .int .i64 0] 25) = wN at D8 hH ⊢
      refine wpAnyH_ready (rs := [10]) (by kernel_rfl) (by simp) ?_
      refine (AllReadyH.cons (o := { dst := some 53, op := Op.call { callee := Callee.value (Operand.func 39), args := #[Operand.tmp 43, Operand.tmp 44, Operand.tmp 47, Operand.tmp 50, Operand.tmp 51, Operand.tmp 52], argTypes := #[43, 3, 3, 3, 3, 25] }, type := 33, pos := "l16_texture.go:163", after := #[{ on := 0, ground := Ground.data }, { on := 1, ground := Ground.data }, { on := 4, ground := Ground.data }, { on := 7, ground := Ground.data }, { on := 8, ground := Ground.data }, { on := 9, ground := Ground.data }], guard := none }) rfl (fun K hK => ?_) AllReadyH.nil)
      refine step_callC 39 #[.agg #[.int .i64 s, .int .i64 y, .int .i64 l, .slice ad n cp], .int .i64 Lk, .int .i64 U, .int .i64 V, .int .i64 e, .agg #[.int .i64 c.r, .int .i64 c.g, .int .i64 c.b, .int .i64 c.a]] (fun z v w' => z = .tuple #[.agg #[.int .i64 q1.r, .int .i64 q1.g, .int .i64 q1.b, .int .i64 q1.a], .bool true] ∧ Below v.heap.size v w') (by rfl) (by go_simp) ((HS1.out _ (BX.trans (hH.mono BX.size))).mono fun e w' ⟨h1, h2⟩ => ⟨_, h1, rfl, h2⟩) ?_
      rintro z7 wC ⟨rfl, B7⟩
      replace D8 := D8.next B7
      simp only [Act.put, List.setIfInBounds_toArray, List.set_cons_zero, List.set_cons_succ]
      refine hK.out _ _ (hH.trans (B7.mono hH.size)) (fun hH' => ?_)
      clear hK K
      replace hH := hH'
      clear hH' 
      clear B7
      refine wpAnyH_take (i := 11) (oi := { dst := some 42, op := Op.move (Operand.tmp 53), type := 33, pos := "l16_texture.go:163", after := #[{ on := 10, ground := Ground.data }], guard := none }) (v := .tuple #[.agg #[.int .i64 q1.r, .int .i64 q1.g, .int .i64 q1.b, .int .i64 q1.a], .bool true]) rfl (by kernel_rfl) (by kernel_rfl) (by kernel_rfl) (fun _ _ _ h => h) (Or.inl ⟨by rfl, fun w0 hSw => by (go_simp)⟩) hH ?_
      simp only [Act.put, List.setIfInBounds_toArray, List.set_cons_zero, List.set_cons_succ]
      refine wpAnyH_take (i := 12) (oi := { dst := some 54, op := Op.extract (Operand.tmp 42) 0, type := 25, pos := "l16_texture.go:163", after := #[{ on := 11, ground := Ground.data }], guard := none }) (v := .agg #[.int .i64 q1.r, .int .i64 q1.g, .int .i64 q1.b, .int .i64 q1.a]) rfl (by kernel_rfl) (by kernel_rfl) (by kernel_rfl) (fun _ _ _ h => h) (Or.inl ⟨by rfl, fun w0 hSw => by (go_simp)⟩) hH ?_
      simp only [Act.put, List.setIfInBounds_toArray, List.set_cons_zero, List.set_cons_succ]
      refine wpAnyH_take (i := 13) (oi := { dst := some 55, op := Op.extract (Operand.tmp 42) 1, type := 4, pos := "l16_texture.go:163", after := #[{ on := 11, ground := Ground.data }, { on := 15, ground := Ground.gcOnly Departure.lateStores }], guard := none }) (v := .bool true) rfl (by kernel_rfl) (by kernel_rfl) (by kernel_rfl) (fun _ _ _ h => h) (Or.inl ⟨by rfl, fun w0 hSw => by (go_simp)⟩) hH ?_
      simp only [Act.put, List.setIfInBounds_toArray, List.set_cons_zero, List.set_cons_succ]
      refine wpAnyH_ready (rs := [15]) (by kernel_rfl) (by simp) ?_
      refine (AllReadyH.cons (o := { dst := none, op := Op.store 25 (Operand.tmp 16) (Operand.tmp 54), type := 0, pos := "l16_texture.go:163", after := #[{ on := 14, ground := Ground.data }, { on := 12, ground := Ground.data }, { on := 10, ground := Ground.chain }, { on := 0, ground := Ground.phase }, { on := 1, ground := Ground.phase }, { on := 2, ground := Ground.phase }, { on := 3, ground := Ground.phase }, { on := 4, ground := Ground.phase }, { on := 5, ground := Ground.phase }, { on := 6, ground := Ground.phase }, { on := 7, ground := Ground.phase }, { on := 8, ground := Ground.phase }, { on := 9, ground := Ground.phase }, { on := 10, ground := Ground.phase }, { on := 11, ground := Ground.phase }, { on := 12, ground := Ground.phase }, { on := 13, ground := Ground.textOnly Departure.lateStores }, { on := 14, ground := Ground.phase }], guard := none }) rfl (fun K hK => ?_) AllReadyH.nil)
      have s0 := D8.c0
      have s1 := D8.c1
      have s2 := D8.c2
      have s3 := D8.c3
      have sf := D8.f
      refine step_skip (set4 wC (WX.heap.size) (.int .i64 q1.r) (.int .i64 q1.g) (.int .i64 q1.b) (.int .i64 q1.a)) (by rfl) (by unfold set4; go_simp) ?_
      have D9 := D8.put (.int .i64 q1.r) (.int .i64 q1.g) (.int .i64 q1.b) (.int .i64 q1.a)
      have B9 : Below WX.heap.size WX (set4 wC (WX.heap.size) (.int .i64 q1.r) (.int .i64 q1.g) (.int .i64 q1.b) (.int .i64 q1.a)) := hH.trans ((only_set4 wC (WX.heap.size) (.int .i64 q1.r) (.int .i64 q1.g) (.int .i64 q1.b) (.int .i64 q1.a)).below hD8 hH.size)
      refine hK.out _ _ B9 (fun hH' => ?_)
      clear hK K
      replace hH := hH'
      clear hH' s0 s1 s2 s3 sf D8
      refine wpAnyH_take (i := 16) (oi := { dst := some 17, op := Op.assign (Operand.tmp 55), type := 4, pos := "l16_texture.go:163", after := #[{ on := 13, ground := Ground.data }, { on := 15, ground := Ground.chain }, { on := 0, ground := Ground.phase }, { on := 1, ground := Ground.phase }, { on := 2, ground := Ground.phase }, { on := 3, ground := Ground.phase }, { on := 4, ground := Ground.phase }, { on := 5, ground := Ground.phase }, { on := 6, ground := Ground.phase }, { on := 7, ground := Ground.phase }, { on := 8, ground := Ground.phase }, { on := 9, ground := Ground.phase }, { on := 10, ground := Ground.phase }, { on := 11, ground := Ground.phase }, { on := 12, ground := Ground.phase }, { on := 13, ground := Ground.phase }, { on := 14, ground := Ground.phase }, { on := 15, ground := Ground.phase }], guard := none }) (v := .bool true) rfl (by kernel_rfl) (by kernel_rfl) (by kernel_rfl) (fun _ _ _ h => h) (Or.inl ⟨by rfl, fun w0 hSw => by (go_simp)⟩) hH ?_
      simp only [Act.put, List.setIfInBounds_toArray, List.set_cons_zero, List.set_cons_succ]
      refine wpAnyH_done (by kernel_rfl) ?_ _
      go_wp2_with fail
      go_meet
      case rel => exact ⟨WX.heap.size, rfl, rfl, D9, BX2.trans (B9.mono BX2.size), Nat.le_trans BX2.size hD8⟩
  case rest =>
    obtain ⟨nb, rfl, rfl, N6, B6, hnb⟩ := hcut
    have T6 := T2.next B6
    have K6 := K2.next B6
    have D6 := D2.next B6
    have BX6 := BX.trans (B6.mono BX.size)
    clear BX T2 K2 D2 B6
    generalize hwc : wc = w6 at *
    clear hwc
    have t0 := T6.c0
    have t1 := T6.c1
    have t2 := T6.c2
    have t3 := T6.c3
    have k0 := K6.c0
    have k1 := K6.c1
    have k2 := K6.c2
    have k3 := K6.c3
    have x0 := D6.c0
    have x1 := D6.c1
    have x2 := D6.c2
    have x3 := D6.c3
    have xf := D6.f
    have y0 := N6.c0
    have y1 := N6.c1
    have y2 := N6.c2
    have y3 := N6.c3
    go_upto_region 8 with fail
    have BX := BX6
    clear t0 k0 x0 y0 t1 k1 x1 y1 t2 k2 x2 y2 t3 k3 x3 y3 xf BX6
    go_cut [18, 17] (fun pv bv wx => ∃ ab : Nat, pv = .pointer (some ⟨ab, 0, none⟩) ∧ bv = .bool true ∧ C4 wx ab (.int .i64 q2.r) (.int .i64 q2.g) (.int .i64 q2.b) (.int .i64 q2.a) ∧ Below w6.heap.size w6 wx ∧ w6.heap.size ≤ ab)
    case first =>
      have TA := T6
      have KA := K6
      generalize hWW : w6.drew = WX
      have TA := TA.next (below_drew (Below.refl _ _))
      have KA := KA.next (below_drew (Below.refl _ _))
      have BX := below_drew BX
      have BX2 : Below w6.heap.size w6 w6.drew := below_drew (Below.refl _ _)
      rw [hWW] at TA KA BX BX2
      refine wp_region_held_drew (S := fun v => Below WX.heap.size WX v) (by kernel_rfl) (by rw [hWW]; exact Below.refl _ _) (fun hH => ?_)
      rw [hWW] at hH ⊢
      clear hWW
      refine wpAnyH_take (i := 0) (oi := { dst := some 67, op := Op.load 43 (Operand.tmp 6), type := 43, pos := "l16_texture.go:168", after := #[], guard := none }) (v := .agg #[.int .i64 s, .int .i64 y, .int .i64 l, .slice ad n cp]) rfl (by kernel_rfl) (by kernel_rfl) (by kernel_rfl) (fun _ _ _ h => h) (Or.inl ⟨by rfl, fun w0 hSw => by ((have e0 := cell_nx TA.c0 hSw); (have e1 := cell_nx TA.c1 hSw); (have e2 := cell_nx TA.c2 hSw); (have e3 := cell_nx TA.c3 hSw); go_simp)⟩) hH ?_
      simp only [Act.put, List.setIfInBounds_toArray, List.set_cons_zero, List.set_cons_succ]
      refine wpAnyH_take (i := 1) (oi := { dst := some 68, op := Op.move (Operand.tmp 14), type := 3, pos := "l16_texture.go:168", after := #[], guard := none }) (v := .int .i64 Lm) rfl (by kernel_rfl) (by kernel_rfl) (by kernel_rfl) (fun _ _ _ h => h) (Or.inl ⟨by rfl, fun w0 hSw => by (go_simp <;> first | exact (IntKind.wrap_i64 _).trans (by omega) | omega)⟩) hH ?_
      simp only [Act.put, List.setIfInBounds_toArray, List.set_cons_zero, List.set_cons_succ]
      refine wpAnyH_take (i := 2) (oi := { dst := some 69, op := Op.move (Operand.tmp 2), type := 3, pos := "l16_texture.go:168", after := #[], guard := none }) (v := .int .i64 su) rfl (by kernel_rfl) (by kernel_rfl) (by kernel_rfl) (fun _ _ _ h => h) (Or.inl ⟨by rfl, fun w0 hSw => by (go_simp)⟩) hH ?_
      simp only [Act.put, List.setIfInBounds_toArray, List.set_cons_zero, List.set_cons_succ]
      refine wpAnyH_take (i := 3) (oi := { dst := some 70, op := Op.move (Operand.tmp 14), type := 3, pos := "l16_texture.go:168", after := #[], guard := none }) (v := .int .i64 Lm) rfl (by kernel_rfl) (by kernel_rfl) (by kernel_rfl) (fun _ _ _ h => h) (Or.inl ⟨by rfl, fun w0 hSw => by (go_simp <;> first | exact (IntKind.wrap_i64 _).trans (by omega) | omega)⟩) hH ?_
      simp only [Act.put, List.setIfInBounds_toArray, List.set_cons_zero, List.set_cons_succ]
      refine wpAnyH_take (i := 4) (oi := { dst := some 71, op := Op.binOp BinOp.shr 3 (Operand.tmp 69) (Operand.tmp 70) 3, type := 3, pos := "l16_texture.go:168", after := #[{ on := 2, ground := Ground.data }, { on := 3, ground := Ground.data }], guard := none }) (v := .int .i64 U1) rfl (by kernel_rfl) (by kernel_rfl) (by kernel_rfl) (fun _ _ _ h => h) (Or.inl ⟨by rfl, fun w0 hSw => by ((first | (go_simp; rw [HSU1.out]; rfl) | (go_simp; exact HSU1.out) | (go_simp; simp [HSU1.out]; done) | (go_simp; exact HSU1Q.out) | (go_simp; trace_state; fail)))⟩) hH ?_
      simp only [Act.put, List.setIfInBounds_toArray, List.set_cons_zero, List.set_cons_succ]
      refine wpAnyH_take (i := 5) (oi := { dst := some 72, op := Op.move (Operand.tmp 3), type := 3, pos := "l16_texture.go:168", after := #[], guard := none }) (v := .int .i64 sv) rfl (by kernel_rfl) (by kernel_rfl) (by kernel_rfl) (fun _ _ _ h => h) (Or.inl ⟨by rfl, fun w0 hSw => by (go_simp)⟩) hH ?_
      simp only [Act.put, List.setIfInBounds_toArray, List.set_cons_zero, List.set_cons_succ]
      refine wpAnyH_take (i := 6) (oi := { dst := some 73, op := Op.move (Operand.tmp 14), type := 3, pos := "l16_texture.go:168", after := #[], guard := none }) (v := .int .i64 Lm) rfl (by kernel_rfl) (by kernel_rfl) (by kernel_rfl) (fun _ _ _ h => h) (Or.inl ⟨by rfl, fun w0 hSw => by (go_simp <;> first | exact (IntKind.wrap_i64 _).trans (by omega) | omega)⟩) hH ?_
      simp only [Act.put, List.setIfInBounds_toArray, List.set_cons_zero, List.set_cons_succ]
      refine wpAnyH_take (i := 7) (oi := { dst := some 74, op := Op.binOp BinOp.shr 3 (Operand.tmp 72) (Operand.tmp 73) 3, type := 3, pos := "l16_texture.go:168", after := #[{ on := 5, ground := Ground.data }, { on := 6, ground := Ground.data }], guard := none }) (v := .int .i64 V1) rfl (by kernel_rfl) (by kernel_rfl) (by kernel_rfl) (fun _ _ _ h => h) (Or.inl ⟨by rfl, fun w0 hSw => by ((first | (go_simp; rw [HSV1.out]; rfl) | (go_simp; exact HSV1.out) | (go_simp; simp [HSV1.out]; done) | (go_simp; exact HSV1Q.out) | (go_simp; trace_state; fail)))⟩) hH ?_
      simp only [Act.put, List.setIfInBounds_toArray, List.set_cons_zero, List.set_cons_succ]
      refine wpAnyH_take (i := 8) (oi := { dst := some 75, op := Op.move (Operand.tmp 4), type := 3, pos := "l16_texture.go:168", after := #[], guard := none }) (v := .int .i64 e) rfl (by kernel_rfl) (by kernel_rfl) (by kernel_rfl) (fun _ _ _ h => h) (Or.inl ⟨by rfl, fun w0 hSw => by (go_simp)⟩) hH ?_
      simp only [Act.put, List.setIfInBounds_toArray, List.set_cons_zero, List.set_cons_succ]
      refine wpAnyH_take (i := 9) (oi := { dst := some 76, op := Op.load 25 (Operand.tmp 11), type := 25, pos := "l16_texture.go:168", after := #[], guard := none }) (v := .agg #[.int .i64 c.r, .int .i64 c.g, .int .i64 c.b, .int .i64 c.a]) rfl (by kernel_rfl) (by kernel_rfl) (by kernel_rfl) (fun _ _ _ h => h) (Or.inl ⟨by rfl, fun w0 hSw => by ((have e0 := cell_nx KA.c0 hSw); (have e1 := cell_nx KA.c1 hSw); (have e2 := cell_nx KA.c2 hSw); (have e3 := cell_nx KA.c3 hSw); go_simp)⟩) hH ?_
      simp only [Act.put, List.setIfInBounds_toArray, List.set_cons_zero, List.set_cons_succ]
      refine wpAnyH_ready (rs := [10, 14]) (by kernel_rfl) (by simp) ?_
      refine (AllReadyH.cons (o := { dst := some 77, op := Op.call { callee := Callee.value (Operand.func 39), args := #[Operand.tmp 67, Operand.tmp 68, Operand.tmp 71, Operand.tmp 74, Operand.tmp 75, Operand.tmp 76], argTypes := #[43, 3, 3, 3, 3, 25] }, type := 33, pos := "l16_texture.go:168", after := #[{ on := 0, ground := Ground.data }, { on := 1, ground := Ground.data }, { on := 4, ground := Ground.data }, { on := 7, ground := Ground.data }, { on := 8, ground := Ground.data }, { on := 9, ground := Ground.data }], guard := none }) rfl (fun K hK => ?_) (AllReadyH.cons (o := { dst := some 18, op := Op.alloc 25, type := 0, pos := "l16_texture.go:168", after := #[], guard := none }) rfl (fun K hK => ?_) AllReadyH.nil))
      · refine step_callC 39 #[.agg #[.int .i64 s, .int .i64 y, .int .i64 l, .slice ad n cp], .int .i64 Lm, .int .i64 U1, .int .i64 V1, .int .i64 e, .agg #[.int .i64 c.r, .int .i64 c.g, .int .i64 c.b, .int .i64 c.a]] (fun z v w' => z = .tuple #[.agg #[.int .i64 q2.r, .int .i64 q2.g, .int .i64 q2.b, .int .i64 q2.a], .bool true] ∧ Below v.heap.size v w') (by rfl) (by go_simp) ((HS2.out _ (BX.trans (hH.mono BX.size))).mono fun e w' ⟨h1, h2⟩ => ⟨_, h1, rfl, h2⟩) ?_
        rintro z7 wC ⟨rfl, B7⟩
        simp only [Act.put, List.setIfInBounds_toArray, List.set_cons_zero, List.set_cons_succ]
        refine hK.out _ _ (hH.trans (B7.mono hH.size)) (fun hH' => ?_)
        clear hK K
        replace hH := hH'
        clear hH' 
        clear B7
        refine wpAnyH_take (i := 11) (oi := { dst := some 66, op := Op.move (Operand.tmp 77), type := 33, pos := "l16_texture.go:168", after := #[{ on := 10, ground := Ground.data }], guard := none }) (v := .tuple #[.agg #[.int .i64 q2.r, .int .i64 q2.g, .int .i64 q2.b, .int .i64 q2.a], .bool true]) rfl (by kernel_rfl) (by kernel_rfl) (by kernel_rfl) (fun _ _ _ h => h) (Or.inl ⟨by rfl, fun w0 hSw => by (go_simp)⟩) hH ?_
        simp only [Act.put, List.setIfInBounds_toArray, List.set_cons_zero, List.set_cons_succ]
        refine wpAnyH_take (i := 12) (oi := { dst := some 78, op := Op.extract (Operand.tmp 66) 0, type := 25, pos := "l16_texture.go:168", after := #[{ on := 11, ground := Ground.data }], guard := none }) (v := .agg #[.int .i64 q2.r, .int .i64 q2.g, .int .i64 q2.b, .int .i64 q2.a]) rfl (by kernel_rfl) (by kernel_rfl) (by kernel_rfl) (fun _ _ _ h => h) (Or.inl ⟨by rfl, fun w0 hSw => by (go_simp)⟩) hH ?_
        simp only [Act.put, List.setIfInBounds_toArray, List.set_cons_zero, List.set_cons_succ]
        refine wpAnyH_take (i := 13) (oi := { dst := some 79, op := Op.extract (Operand.tmp 66) 1, type := 4, pos := "l16_texture.go:168", after := #[{ on := 11, ground := Ground.data }, { on := 15, ground := Ground.gcOnly Departure.lateStores }], guard := none }) (v := .bool true) rfl (by kernel_rfl) (by kernel_rfl) (by kernel_rfl) (fun _ _ _ h => h) (Or.inl ⟨by rfl, fun w0 hSw => by (go_simp)⟩) hH ?_
        simp only [Act.put, List.setIfInBounds_toArray, List.set_cons_zero, List.set_cons_succ]
        refine wpAnyH_ready (rs := [14]) (by kernel_rfl) (by simp) ?_
        refine (AllReadyH.cons (o := { dst := some 18, op := Op.alloc 25, type := 0, pos := "l16_texture.go:168", after := #[], guard := none }) rfl (fun K hK => ?_) AllReadyH.nil)
        refine step_val (.pointer (some ⟨wC.heap.size, 0, none⟩)) (wC.alloc (.cells #[.int .i64 0, .int .i64 0, .int .i64 0, .int .i64 0] 25)) (by rfl) (by go_simp) ?_
        have D8 := C4.new wC 25 (.int .i64 0) (.int .i64 0) (.int .i64 0) (.int .i64 0)
        have hD8 : WX.heap.size ≤ wC.heap.size := hH.size
        simp only [Act.put, List.setIfInBounds_toArray, List.set_cons_zero, List.set_cons_succ]
        refine hK.out _ _ (hH.trans (alloc_b.mono hH.size)) (fun hH' => ?_)
        clear hK K
        replace hH := hH'
        clear hH' 
        generalize wC.alloc (.cells #[.int .i64 0, .int .i64 0, .int .i64 0, .int .i64 0] 25) = wN at D8 hH ⊢
        refine wpAnyH_ready (rs := [15]) (by kernel_rfl) (by simp) ?_
        refine (AllReadyH.cons (o := { dst := none, op := Op.store 25 (Operand.tmp 18) (Operand.tmp 78), type := 0, pos := "l16_texture.go:168", after := #[{ on := 14, ground := Ground.data }, { on := 12, ground := Ground.data }, { on := 10, ground := Ground.chain }, { on := 0, ground := Ground.phase }, { on := 1, ground := Ground.phase }, { on := 2, ground := Ground.phase }, { on := 3, ground := Ground.phase }, { on := 4, ground := Ground.phase }, { on := 5, ground := Ground.phase }, { on := 6, ground := Ground.phase }, { on := 7, ground := Ground.phase }, { on := 8, ground := Ground.phase }, { on := 9, ground := Ground.phase }, { on := 10, ground := Ground.phase }, { on := 11, ground := Ground.phase }, { on := 12, ground := Ground.phase }, { on := 13, ground := Ground.textOnly Departure.lateStores }, { on := 14, ground := Ground.phase }], guard := none }) rfl (fun K hK => ?_) AllReadyH.nil)
        have s0 := D8.c0
        have s1 := D8.c1
        have s2 := D8.c2
        have s3 := D8.c3
        have sf := D8.f
        refine step_skip (set4 wN (wC.heap.size) (.int .i64 q2.r) (.int .i64 q2.g) (.int .i64 q2.b) (.int .i64 q2.a)) (by rfl) (by unfold set4; go_simp) ?_
        have D9 := D8.put (.int .i64 q2.r) (.int .i64 q2.g) (.int .i64 q2.b) (.int .i64 q2.a)
        have B9 : Below WX.heap.size WX (set4 wN (wC.heap.size) (.int .i64 q2.r) (.int .i64 q2.g) (.int .i64 q2.b) (.int .i64 q2.a)) := hH.trans ((only_set4 wN (wC.heap.size) (.int .i64 q2.r) (.int .i64 q2.g) (.int .i64 q2.b) (.int .i64 q2.a)).below hD8 hH.size)
        refine hK.out _ _ B9 (fun hH' => ?_)
        clear hK K
        replace hH := hH'
        clear hH' s0 s1 s2 s3 sf D8
        refine wpAnyH_take (i := 16) (oi := { dst := some 17, op := Op.assign (Operand.tmp 79), type := 4, pos := "l16_texture.go:168", after := #[{ on := 13, ground := Ground.data }, { on := 15, ground := Ground.chain }, { on := 0, ground := Ground.phase }, { on := 1, ground := Ground.phase }, { on := 2, ground := Ground.phase }, { on := 3, ground := Ground.phase }, { on := 4, ground := Ground.phase }, { on := 5, ground := Ground.phase }, { on := 6, ground := Ground.phase }, { on := 7, ground := Ground.phase }, { on := 8, ground := Ground.phase }, { on := 9, ground := Ground.phase }, { on := 10, ground := Ground.phase }, { on := 11, ground := Ground.phase }, { on := 12, ground := Ground.phase }, { on := 13, ground := Ground.phase }, { on := 14, ground := Ground.phase }, { on := 15, ground := Ground.phase }], guard := none }) (v := .bool true) rfl (by kernel_rfl) (by kernel_rfl) (by kernel_rfl) (fun _ _ _ h => h) (Or.inl ⟨by rfl, fun w0 hSw => by (go_simp)⟩) hH ?_
        simp only [Act.put, List.setIfInBounds_toArray, List.set_cons_zero, List.set_cons_succ]
        refine wpAnyH_done (by kernel_rfl) ?_ _
        go_wp2_with fail
        go_meet
        case rel => exact ⟨wC.heap.size, rfl, rfl, D9, BX2.trans (B9.mono BX2.size), Nat.le_trans BX2.size hD8⟩
      · refine step_val (.pointer (some ⟨WX.heap.size, 0, none⟩)) (WX.alloc (.cells #[.int .i64 0, .int .i64 0, .int .i64 0, .int .i64 0] 25)) (by rfl) (by go_simp) ?_
        have D8 := C4.new WX 25 (.int .i64 0) (.int .i64 0) (.int .i64 0) (.int .i64 0)
        have hD8 : WX.heap.size ≤ WX.heap.size := hH.size
        simp only [Act.put, List.setIfInBounds_toArray, List.set_cons_zero, List.set_cons_succ]
        refine hK.out _ _ (hH.trans (alloc_b.mono hH.size)) (fun hH' => ?_)
        clear hK K
        replace hH := hH'
        clear hH' 
        generalize WX.alloc (.cells #[.int .i64 0, .int .i64 0, .int .i64 0, .int .i64 0] 25) = wN at D8 hH ⊢
        refine wpAnyH_ready (rs := [10]) (by kernel_rfl) (by simp) ?_
        refine (AllReadyH.cons (o := { dst := some 77, op := Op.call { callee := Callee.value (Operand.func 39), args := #[Operand.tmp 67, Operand.tmp 68, Operand.tmp 71, Operand.tmp 74, Operand.tmp 75, Operand.tmp 76], argTypes := #[43, 3, 3, 3, 3, 25] }, type := 33, pos := "l16_texture.go:168", after := #[{ on := 0, ground := Ground.data }, { on := 1, ground := Ground.data }, { on := 4, ground := Ground.data }, { on := 7, ground := Ground.data }, { on := 8, ground := Ground.data }, { on := 9, ground := Ground.data }], guard := none }) rfl (fun K hK => ?_) AllReadyH.nil)
        refine step_callC 39 #[.agg #[.int .i64 s, .int .i64 y, .int .i64 l, .slice ad n cp], .int .i64 Lm, .int .i64 U1, .int .i64 V1, .int .i64 e, .agg #[.int .i64 c.r, .int .i64 c.g, .int .i64 c.b, .int .i64 c.a]] (fun z v w' => z = .tuple #[.agg #[.int .i64 q2.r, .int .i64 q2.g, .int .i64 q2.b, .int .i64 q2.a], .bool true] ∧ Below v.heap.size v w') (by rfl) (by go_simp) ((HS2.out _ (BX.trans (hH.mono BX.size))).mono fun e w' ⟨h1, h2⟩ => ⟨_, h1, rfl, h2⟩) ?_
        rintro z7 wC ⟨rfl, B7⟩
        replace D8 := D8.next B7
        simp only [Act.put, List.setIfInBounds_toArray, List.set_cons_zero, List.set_cons_succ]
        refine hK.out _ _ (hH.trans (B7.mono hH.size)) (fun hH' => ?_)
        clear hK K
        replace hH := hH'
        clear hH' 
        clear B7
        refine wpAnyH_take (i := 11) (oi := { dst := some 66, op := Op.move (Operand.tmp 77), type := 33, pos := "l16_texture.go:168", after := #[{ on := 10, ground := Ground.data }], guard := none }) (v := .tuple #[.agg #[.int .i64 q2.r, .int .i64 q2.g, .int .i64 q2.b, .int .i64 q2.a], .bool true]) rfl (by kernel_rfl) (by kernel_rfl) (by kernel_rfl) (fun _ _ _ h => h) (Or.inl ⟨by rfl, fun w0 hSw => by (go_simp)⟩) hH ?_
        simp only [Act.put, List.setIfInBounds_toArray, List.set_cons_zero, List.set_cons_succ]
        refine wpAnyH_take (i := 12) (oi := { dst := some 78, op := Op.extract (Operand.tmp 66) 0, type := 25, pos := "l16_texture.go:168", after := #[{ on := 11, ground := Ground.data }], guard := none }) (v := .agg #[.int .i64 q2.r, .int .i64 q2.g, .int .i64 q2.b, .int .i64 q2.a]) rfl (by kernel_rfl) (by kernel_rfl) (by kernel_rfl) (fun _ _ _ h => h) (Or.inl ⟨by rfl, fun w0 hSw => by (go_simp)⟩) hH ?_
        simp only [Act.put, List.setIfInBounds_toArray, List.set_cons_zero, List.set_cons_succ]
        refine wpAnyH_take (i := 13) (oi := { dst := some 79, op := Op.extract (Operand.tmp 66) 1, type := 4, pos := "l16_texture.go:168", after := #[{ on := 11, ground := Ground.data }, { on := 15, ground := Ground.gcOnly Departure.lateStores }], guard := none }) (v := .bool true) rfl (by kernel_rfl) (by kernel_rfl) (by kernel_rfl) (fun _ _ _ h => h) (Or.inl ⟨by rfl, fun w0 hSw => by (go_simp)⟩) hH ?_
        simp only [Act.put, List.setIfInBounds_toArray, List.set_cons_zero, List.set_cons_succ]
        refine wpAnyH_ready (rs := [15]) (by kernel_rfl) (by simp) ?_
        refine (AllReadyH.cons (o := { dst := none, op := Op.store 25 (Operand.tmp 18) (Operand.tmp 78), type := 0, pos := "l16_texture.go:168", after := #[{ on := 14, ground := Ground.data }, { on := 12, ground := Ground.data }, { on := 10, ground := Ground.chain }, { on := 0, ground := Ground.phase }, { on := 1, ground := Ground.phase }, { on := 2, ground := Ground.phase }, { on := 3, ground := Ground.phase }, { on := 4, ground := Ground.phase }, { on := 5, ground := Ground.phase }, { on := 6, ground := Ground.phase }, { on := 7, ground := Ground.phase }, { on := 8, ground := Ground.phase }, { on := 9, ground := Ground.phase }, { on := 10, ground := Ground.phase }, { on := 11, ground := Ground.phase }, { on := 12, ground := Ground.phase }, { on := 13, ground := Ground.textOnly Departure.lateStores }, { on := 14, ground := Ground.phase }], guard := none }) rfl (fun K hK => ?_) AllReadyH.nil)
        have s0 := D8.c0
        have s1 := D8.c1
        have s2 := D8.c2
        have s3 := D8.c3
        have sf := D8.f
        refine step_skip (set4 wC (WX.heap.size) (.int .i64 q2.r) (.int .i64 q2.g) (.int .i64 q2.b) (.int .i64 q2.a)) (by rfl) (by unfold set4; go_simp) ?_
        have D9 := D8.put (.int .i64 q2.r) (.int .i64 q2.g) (.int .i64 q2.b) (.int .i64 q2.a)
        have B9 : Below WX.heap.size WX (set4 wC (WX.heap.size) (.int .i64 q2.r) (.int .i64 q2.g) (.int .i64 q2.b) (.int .i64 q2.a)) := hH.trans ((only_set4 wC (WX.heap.size) (.int .i64 q2.r) (.int .i64 q2.g) (.int .i64 q2.b) (.int .i64 q2.a)).below hD8 hH.size)
        refine hK.out _ _ B9 (fun hH' => ?_)
        clear hK K
        replace hH := hH'
        clear hH' s0 s1 s2 s3 sf D8
        refine wpAnyH_take (i := 16) (oi := { dst := some 17, op := Op.assign (Operand.tmp 79), type := 4, pos := "l16_texture.go:168", after := #[{ on := 13, ground := Ground.data }, { on := 15, ground := Ground.chain }, { on := 0, ground := Ground.phase }, { on := 1, ground := Ground.phase }, { on := 2, ground := Ground.phase }, { on := 3, ground := Ground.phase }, { on := 4, ground := Ground.phase }, { on := 5, ground := Ground.phase }, { on := 6, ground := Ground.phase }, { on := 7, ground := Ground.phase }, { on := 8, ground := Ground.phase }, { on := 9, ground := Ground.phase }, { on := 10, ground := Ground.phase }, { on := 11, ground := Ground.phase }, { on := 12, ground := Ground.phase }, { on := 13, ground := Ground.phase }, { on := 14, ground := Ground.phase }, { on := 15, ground := Ground.phase }], guard := none }) (v := .bool true) rfl (by kernel_rfl) (by kernel_rfl) (by kernel_rfl) (fun _ _ _ h => h) (Or.inl ⟨by rfl, fun w0 hSw => by (go_simp)⟩) hH ?_
        simp only [Act.put, List.setIfInBounds_toArray, List.set_cons_zero, List.set_cons_succ]
        refine wpAnyH_done (by kernel_rfl) ?_ _
        go_wp2_with fail
        go_meet
        case rel => exact ⟨WX.heap.size, rfl, rfl, D9, BX2.trans (B9.mono BX2.size), Nat.le_trans BX2.size hD8⟩
    case rest =>
      obtain ⟨fb, rfl, rfl, M8, B8, hfb⟩ := hcut
      have D8 := D6.next B8
      have N8 := N6.next B8
      have BX8 := BX.trans (B8.mono BX.size)
      clear BX T6 K6 D6 N6 B8
      generalize hwc : wc = w8 at *
      clear hwc
      have x0 := D8.c0
      have x1 := D8.c1
      have x2 := D8.c2
      have x3 := D8.c3
      have xf := D8.f
      have y0 := N8.c0
      have y1 := N8.c1
      have y2 := N8.c2
      have y3 := N8.c3
      have z0 := M8.c0
      have z1 := M8.c1
      have z2 := M8.c2
      have z3 := M8.c3
      go_wp2_with (go_at_call 71; refine (HBL.out _ _ ⟨_, 0, _, rfl, fun i hi => by rcases (show i = 0 ∨ i = 1 by omega) with rfl | rfl <;> exact ⟨by simp [t2C], by simp [t2C], by simp [t2C], by simp [t2C], by simp [t2T]⟩⟩).mono ?_; rintro e9 w9 ⟨rfl, B9⟩; (have D9 := (D8.next (alloc_b (o := (.cells #[.int .i64 q1.r, .int .i64 q1.g, .int .i64 q1.b, .int .i64 q1.a, .int .i64 (256 - r), .int .i64 q2.r, .int .i64 q2.g, .int .i64 q2.b, .int .i64 q2.a, .int .i64 r] 96)))).next B9); (have BX9 := (BX8.alloc BX8.size (.cells #[.int .i64 q1.r, .int .i64 q1.g, .int .i64 q1.b, .int .i64 q1.a, .int .i64 (256 - r), .int .i64 q2.r, .int .i64 q2.g, .int .i64 q2.b, .int .i64 q2.a, .int .i64 r] 96)).trans (B9.mono (BX8.alloc BX8.size (.cells #[.int .i64 q1.r, .int .i64 q1.g, .int .i64 q1.b, .int .i64 q1.a, .int .i64 (256 - r), .int .i64 q2.r, .int .i64 q2.g, .int .i64 q2.b, .int .i64 q2.a, .int .i64 r] 96)).size)); (have x0 := D9.c0); (have x1 := D9.c1); (have x2 := D9.c2); (have x3 := D9.c3); (have xf := D9.f))
      clear x0 x1 x2 x3 xf
      have D6 := D9.put (.int .i64 QQ.r) (.int .i64 QQ.g) (.int .i64 QQ.b) (.int .i64 QQ.a)
      have B06 : Below w.heap.size w (set4 w9 (w.heap.size + 1 + 1) (.int .i64 QQ.r) (.int .i64 QQ.g) (.int .i64 QQ.b) (.int .i64 QQ.a)) := BX9.trans ((only_set4 w9 (w.heap.size + 1 + 1) _ _ _ _).below (by omega) BX9.size)
      unfold set4 at D6 B06
      have r0 := D6.c0
      have r1 := D6.c1
      have r2 := D6.c2
      have r3 := D6.c3
      exact bodyPost_ret (v := .tuple #[.agg #[.int .i64 QQ.r, .int .i64 QQ.g, .int .i64 QQ.b, .int .i64 QQ.a], .bool true]) (by simp [results, Try.results41, go_sem, r0, r1, r2, r3]) rfl ⟨rfl, B06⟩
end Go.Proofs.Ythkngcdfnemhaaa
