/- The model's blend of colors; BlendColor of both sides. -/
import Derived.Test.YtglhlpbaaoekgaaCa
import Derived.Deep.Cut
import Derived.Deep.DeepCutAuto
import Derived.Deep.CutBlock
namespace Go.Proofs.Ytglhlpbaaoekgaa
open Go.ChangeShapes Go.WideShapes Go.ChangeAt Go.RowKit
set_option linter.unusedVariables false
theorem p255 {a b : Int} (h : 0 ≤ a ∧ a ≤ 255) (k : 0 ≤ b ∧ b ≤ 255) : 0 ≤ a * b ∧ a * b ≤ 65025 := by
  have h0 : 0 ≤ a * b := Int.mul_nonneg h.1 k.1
  have h1 : a * b ≤ 255 * 255 := Int.mul_le_mul h.2 k.2 k.1 (by decide)
  omega
/-- A color upon another one. -/
def blM (fr fg fb fa tr tg tb ta : Int) : Col := ⟨(fr * fa + tr * (255 - fa) + 127) / 255, (fg * fa + tg * (255 - fa) + 127) / 255, (fb * fa + tb * (255 - fa) + 127) / 255, fa + (ta * (255 - fa) + 127) / 255⟩
set_option maxRecDepth 100000 in
set_option maxHeartbeats 8000000 in
theorem mblend (fr fg fb fa tr tg tb ta : Int) (w : World) (h1 : gdC fr fg fb fa = true) (h2 : gdC tr tg tb ta = true) : Calls Try.prog 68 #[.agg #[.int .i64 fr, .int .i64 fg, .int .i64 fb, .int .i64 fa], .agg #[.int .i64 tr, .int .i64 tg, .int .i64 tb, .int .i64 ta]] w fun e w' => e = .returned (colV (blM fr fg fb fa tr tg tb ta)) ∧ Below w.heap.size w w' := by
  obtain ⟨b0, b1, b2, b3⟩ := gdC_iff.1 h1
  obtain ⟨d0, d1, d2, d3⟩ := gdC_iff.1 h2
  clear h1 h2
  unfold colV blM
  obtain ⟨k, hk⟩ : ∃ k, 255 - fa = k := ⟨_, rfl⟩
  have wk : IntKind.i64.wrap (255 - fa) = k := by rw [hk]; exact (IntKind.wrap_i64 _).trans (by omega)
  have bk : 0 ≤ k ∧ k ≤ 255 := by omega
  rw [hk]
  clear hk
  have x0 := p255 b0 b3
  have y0 := p255 d0 bk
  obtain ⟨P0, hP0⟩ : ∃ z, fr * fa = z := ⟨_, rfl⟩
  obtain ⟨Q0, hQ0⟩ : ∃ z, tr * k = z := ⟨_, rfl⟩
  rw [hP0] at x0
  rw [hQ0] at y0
  have m0 : IntKind.i64.wrap (fr * fa) = P0 := by rw [hP0]; exact (IntKind.wrap_i64 _).trans (by omega)
  have n0 : IntKind.i64.wrap (tr * k) = Q0 := by rw [hQ0]; exact (IntKind.wrap_i64 _).trans (by omega)
  have s0 : IntKind.i64.wrap (P0 + Q0) = P0 + Q0 := (IntKind.wrap_i64 _).trans (by omega)
  have u0 : IntKind.i64.wrap (P0 + Q0 + 127) = P0 + Q0 + 127 := (IntKind.wrap_i64 _).trans (by omega)
  obtain ⟨R0, hR0⟩ : ∃ z, (P0 + Q0 + 127) / 255 = z := ⟨_, rfl⟩
  have v0 : (P0 + Q0 + 127).tdiv 255 = R0 := by rw [← hR0]; exact Int.tdiv_eq_ediv_of_nonneg (by omega)
  have z0 : IntKind.i64.wrap R0 = R0 := (IntKind.wrap_i64 _).trans (by omega)
  rw [hP0, hQ0, hR0]
  clear hP0 hQ0 hR0 x0 y0
  have x1 := p255 b1 b3
  have y1 := p255 d1 bk
  obtain ⟨P1, hP1⟩ : ∃ z, fg * fa = z := ⟨_, rfl⟩
  obtain ⟨Q1, hQ1⟩ : ∃ z, tg * k = z := ⟨_, rfl⟩
  rw [hP1] at x1
  rw [hQ1] at y1
  have m1 : IntKind.i64.wrap (fg * fa) = P1 := by rw [hP1]; exact (IntKind.wrap_i64 _).trans (by omega)
  have n1 : IntKind.i64.wrap (tg * k) = Q1 := by rw [hQ1]; exact (IntKind.wrap_i64 _).trans (by omega)
  have s1 : IntKind.i64.wrap (P1 + Q1) = P1 + Q1 := (IntKind.wrap_i64 _).trans (by omega)
  have u1 : IntKind.i64.wrap (P1 + Q1 + 127) = P1 + Q1 + 127 := (IntKind.wrap_i64 _).trans (by omega)
  obtain ⟨R1, hR1⟩ : ∃ z, (P1 + Q1 + 127) / 255 = z := ⟨_, rfl⟩
  have v1 : (P1 + Q1 + 127).tdiv 255 = R1 := by rw [← hR1]; exact Int.tdiv_eq_ediv_of_nonneg (by omega)
  have z1 : IntKind.i64.wrap R1 = R1 := (IntKind.wrap_i64 _).trans (by omega)
  rw [hP1, hQ1, hR1]
  clear hP1 hQ1 hR1 x1 y1
  have x2 := p255 b2 b3
  have y2 := p255 d2 bk
  obtain ⟨P2, hP2⟩ : ∃ z, fb * fa = z := ⟨_, rfl⟩
  obtain ⟨Q2, hQ2⟩ : ∃ z, tb * k = z := ⟨_, rfl⟩
  rw [hP2] at x2
  rw [hQ2] at y2
  have m2 : IntKind.i64.wrap (fb * fa) = P2 := by rw [hP2]; exact (IntKind.wrap_i64 _).trans (by omega)
  have n2 : IntKind.i64.wrap (tb * k) = Q2 := by rw [hQ2]; exact (IntKind.wrap_i64 _).trans (by omega)
  have s2 : IntKind.i64.wrap (P2 + Q2) = P2 + Q2 := (IntKind.wrap_i64 _).trans (by omega)
  have u2 : IntKind.i64.wrap (P2 + Q2 + 127) = P2 + Q2 + 127 := (IntKind.wrap_i64 _).trans (by omega)
  obtain ⟨R2, hR2⟩ : ∃ z, (P2 + Q2 + 127) / 255 = z := ⟨_, rfl⟩
  have v2 : (P2 + Q2 + 127).tdiv 255 = R2 := by rw [← hR2]; exact Int.tdiv_eq_ediv_of_nonneg (by omega)
  have z2 : IntKind.i64.wrap R2 = R2 := (IntKind.wrap_i64 _).trans (by omega)
  rw [hP2, hQ2, hR2]
  clear hP2 hQ2 hR2 x2 y2
  have y3 := p255 d3 bk
  obtain ⟨Q3, hQ3⟩ : ∃ z, ta * k = z := ⟨_, rfl⟩
  rw [hQ3] at y3
  have n3 : IntKind.i64.wrap (ta * k) = Q3 := by rw [hQ3]; exact (IntKind.wrap_i64 _).trans (by omega)
  have u3 : IntKind.i64.wrap (Q3 + 127) = Q3 + 127 := (IntKind.wrap_i64 _).trans (by omega)
  obtain ⟨R3, hR3⟩ : ∃ z, (Q3 + 127) / 255 = z := ⟨_, rfl⟩
  have v3 : (Q3 + 127).tdiv 255 = R3 := by rw [← hR3]; exact Int.tdiv_eq_ediv_of_nonneg (by omega)
  have z3 : IntKind.i64.wrap R3 = R3 := (IntKind.wrap_i64 _).trans (by omega)
  obtain ⟨R4, hR4⟩ : ∃ z, fa + R3 = z := ⟨_, rfl⟩
  have z4 : IntKind.i64.wrap (fa + R3) = R4 := by rw [hR4]; exact (IntKind.wrap_i64 _).trans (by omega)
  rw [hQ3, hR3, hR4]
  clear hQ3 hR3 hR4 y3 b0 b1 b2 b3 d0 d1 d2 d3 bk
  obtain ⟨V, hV⟩ : ∃ V, (((w.alloc (.cells #[.int .i64 fr, .int .i64 fg, .int .i64 fb, .int .i64 fa] 26)).alloc (.cells #[.int .i64 tr, .int .i64 tg, .int .i64 tb, .int .i64 ta] 26)).alloc (.cells #[.int .i64 0, .int .i64 0, .int .i64 0, .int .i64 0] 26)) = V := ⟨_, rfl⟩
  have HV : Hid (∀ v, Below V.heap.size V v → C4 v w.heap.size (.int .i64 fr) (.int .i64 fg) (.int .i64 fb) (.int .i64 fa) ∧ C4 v (w.heap.size + 1) (.int .i64 tr) (.int .i64 tg) (.int .i64 tb) (.int .i64 ta) ∧ C4 v (w.heap.size + 1 + 1) (.int .i64 0) (.int .i64 0) (.int .i64 0) (.int .i64 0) ∧ Below w.heap.size w v) := fun v b => by
    rw [← hV] at b
    have h0 := ((C4.new w 26 (.int .i64 fr) (.int .i64 fg) (.int .i64 fb) (.int .i64 fa)).next (alloc_b (o := (.cells #[.int .i64 tr, .int .i64 tg, .int .i64 tb, .int .i64 ta] 26)))).next (alloc_b (o := (.cells #[.int .i64 0, .int .i64 0, .int .i64 0, .int .i64 0] 26)))
    have h1 := (C4.new (w.alloc (.cells #[.int .i64 fr, .int .i64 fg, .int .i64 fb, .int .i64 fa] 26)) 26 (.int .i64 tr) (.int .i64 tg) (.int .i64 tb) (.int .i64 ta)).next (alloc_b (o := (.cells #[.int .i64 0, .int .i64 0, .int .i64 0, .int .i64 0] 26)))
    have h2 := C4.new ((w.alloc (.cells #[.int .i64 fr, .int .i64 fg, .int .i64 fb, .int .i64 fa] 26)).alloc (.cells #[.int .i64 tr, .int .i64 tg, .int .i64 tb, .int .i64 ta] 26)) 26 (.int .i64 0) (.int .i64 0) (.int .i64 0) (.int .i64 0)
    rw [World.size_alloc] at h1
    rw [World.size_alloc, World.size_alloc] at h2
    exact ⟨h0.next b, h1.next b, h2.next b, (((alloc_b).trans ((alloc_b).mono (by simp))).trans ((alloc_b).mono (by simp; omega))).trans (b.mono (by simp; omega))⟩
  have HVE := Hid.mk hV
  clear hV
  obtain ⟨X0, X1, X2, BV⟩ := HV.out V (Below.refl _ _)
  (have a0 := X0.c0)
  (have a1 := X0.c1)
  (have a2 := X0.c2)
  (have a3 := X0.c3)
  (have c0 := X1.c0)
  (have c1 := X1.c1)
  (have c2 := X1.c2)
  (have c3 := X1.c3)
  (have e0 := X2.c0)
  (have e1 := X2.c1)
  (have e2 := X2.c2)
  (have e3 := X2.c3)
  have ef := X2.f
  have YD := X2.put (.int .i64 R0) (.int .i64 R1) (.int .i64 R2) (.int .i64 R4)
  have BE := Hid.mk (BV.trans ((only_set4 V (w.heap.size + 1 + 1) (.int .i64 R0) (.int .i64 R1) (.int .i64 R2) (.int .i64 R4)).below (by omega) BV.size))
  unfold set4 at YD BE
  have y0 := YD.c0
  have y1 := YD.c1
  have y2 := YD.c2
  have y3 := YD.c3
  clear X0 X1 X2 YD BV HV
  go_enter Try.func68, Try.ntmps68
  go_upto_region 1 with fail
  rw [HVE.out]
  clear HVE
  go_wp2
  exact bodyPost_ret (v := .agg #[.int .i64 R0, .int .i64 R1, .int .i64 R2, .int .i64 R4]) (by simp [results, Try.results68, go_sem, y0, y1, y2, y3]) rfl ⟨rfl, BE.out⟩
/-- What BlendColor answers. -/
def bcC (fr fg fb fa tr tg tb ta : Int) : Col := match gdC fr fg fb fa && gdC tr tg tb ta with
  | true => blM fr fg fb fa tr tg tb ta
  | false => ⟨0, 0, 0, 0⟩
def bcB (fr fg fb fa tr tg tb ta : Int) : Bool := gdC fr fg fb fa && gdC tr tg tb ta
theorem bl_eq (fr fg fb fa tr tg tb ta : Int) : blC 2 (fun i => if i = 0 then ⟨fr, fg, fb, 255⟩ else ⟨tr, tg, tb, ta⟩ : Nat → Col) (fun i => if i = 0 then fa else 255 - fa : Nat → Int) = blM fr fg fb fa tr tg tb ta := by
  have ha : al (fun i => if i = 0 then fa else 255 - fa : Nat → Int) 2 = 255 := by simp [al]; omega
  unfold blC blM
  rw [ha]
  simp only [sm, if_true, if_false, Nat.succ_ne_self]
  generalize fr * fa = a0
  generalize fg * fa = a1
  generalize fb * fa = a2
  generalize tr * (255 - fa) = c0
  generalize tg * (255 - fa) = c1
  generalize tb * (255 - fa) = c2
  generalize ta * (255 - fa) = c3
  congr 1
  · omega
  · omega
  · omega
  · omega
theorem prow2 (v : World) (ty : TypeId) (fr fg fb fa tr tg tb ta k : Int) (hk : 255 - fa = k) : PRow (v.alloc (.cells #[.int .i64 fr, .int .i64 fg, .int .i64 fb, .int .i64 255, .int .i64 fa, .int .i64 tr, .int .i64 tg, .int .i64 tb, .int .i64 ta, .int .i64 k] ty)) (.slice (some ⟨v.heap.size, 0, none⟩) 2 2) 2 (fun i => if i = 0 then ⟨fr, fg, fb, 255⟩ else ⟨tr, tg, tb, ta⟩ : Nat → Col) (fun i => if i = 0 then fa else 255 - fa : Nat → Int) := by
  refine ⟨v.heap.size, 0, 2, rfl, fun i hi => ?_⟩
  have hc : i = 0 ∨ i = 1 := by omega
  rcases hc with rfl | rfl
  · simp
  · simp [hk]
set_option maxRecDepth 100000 in
set_option maxHeartbeats 4000000 in
theorem pbl2 (v : World) (ty : TypeId) (g : Nat) (hg : g = v.heap.size) (fr fg fb fa tr tg tb ta k : Int) (hk : 255 - fa = k) (h1 : gdC fr fg fb fa = true) (h2 : gdC tr tg tb ta = true) : Calls Try.prog 69 #[.slice (some ⟨g, 0, none⟩) 2 2] (v.alloc (.cells #[.int .i64 fr, .int .i64 fg, .int .i64 fb, .int .i64 255, .int .i64 fa, .int .i64 tr, .int .i64 tg, .int .i64 tb, .int .i64 ta, .int .i64 k] ty)) fun e w' => e = .returned (colV (blM fr fg fb fa tr tg tb ta)) ∧ Below v.heap.size (v.alloc (.cells #[.int .i64 fr, .int .i64 fg, .int .i64 fb, .int .i64 255, .int .i64 fa, .int .i64 tr, .int .i64 tg, .int .i64 tb, .int .i64 ta, .int .i64 k] ty)) w' := by
  subst hg
  obtain ⟨b0, b1, b2, b3⟩ := gdC_iff.1 h1
  obtain ⟨d0, d1, d2, d3⟩ := gdC_iff.1 h2
  have h := pblend 2 (fun i => if i = 0 then ⟨fr, fg, fb, 255⟩ else ⟨tr, tg, tb, ta⟩ : Nat → Col) (fun i => if i = 0 then fa else 255 - fa : Nat → Int) _ _ (prow2 v ty fr fg fb fa tr tg tb ta k hk) (by omega) (fun i hi => by
    have hc : i = 0 ∨ i = 1 := by omega
    rcases hc with rfl | rfl
    · exact ⟨b0, b1, b2, by show (0 : Int) ≤ 255 ∧ (255 : Int) ≤ 255; decide⟩
    · exact ⟨d0, d1, d2, d3⟩) (fun i hi => by
    have hc : i = 0 ∨ i = 1 := by omega
    rcases hc with rfl | rfl
    · show 0 ≤ fa ∧ fa ≤ 65536; omega
    · show 0 ≤ 255 - fa ∧ 255 - fa ≤ 65536; omega) (by simp [al]; omega)
  rw [bl_eq] at h
  exact h.mono fun e w' ⟨e1, e2⟩ => ⟨e1, e2.mono (by simp)⟩
set_option maxRecDepth 100000 in
set_option maxHeartbeats 8000000 in
theorem mbc (fr fg fb fa tr tg tb ta : Int) (w : World) : Calls Try.prog 31 #[.agg #[.int .i64 fr, .int .i64 fg, .int .i64 fb, .int .i64 fa], .agg #[.int .i64 tr, .int .i64 tg, .int .i64 tb, .int .i64 ta]] w fun e w' => e = .returned (.tuple #[colV (bcC fr fg fb fa tr tg tb ta), .bool (bcB fr fg fb fa tr tg tb ta)]) ∧ Below w.heap.size w w' := by
  have HF : Hid (∀ w', Calls Try.prog 54 #[.agg #[.int .i64 fr, .int .i64 fg, .int .i64 fb, .int .i64 fa]] w' fun e w'' => e = .returned (.bool (gdC fr fg fb fa)) ∧ Below w'.heap.size w' w'') := fun w' => good11 fr fg fb fa w'
  have HT : Hid (∀ w', Calls Try.prog 54 #[.agg #[.int .i64 tr, .int .i64 tg, .int .i64 tb, .int .i64 ta]] w' fun e w'' => e = .returned (.bool (gdC tr tg tb ta)) ∧ Below w'.heap.size w' w'') := fun w' => good11 tr tg tb ta w'
  have HB : Hid (gdC fr fg fb fa = true → gdC tr tg tb ta = true → ∀ w', Calls Try.prog 68 #[.agg #[.int .i64 fr, .int .i64 fg, .int .i64 fb, .int .i64 fa], .agg #[.int .i64 tr, .int .i64 tg, .int .i64 tb, .int .i64 ta]] w' fun e w'' => e = .returned (colV (blM fr fg fb fa tr tg tb ta)) ∧ Below w'.heap.size w' w'') := fun a b w' => mblend fr fg fb fa tr tg tb ta w' a b
  unfold bcC bcB
  generalize blM fr fg fb fa tr tg tb ta = q at HB ⊢
  generalize gdC fr fg fb fa = g1 at HF HB ⊢
  generalize gdC tr tg tb ta = g2 at HT HB ⊢
  unfold colV at HB ⊢
  obtain ⟨V, hV⟩ : ∃ V, (((w.alloc (.cells #[.int .i64 fr, .int .i64 fg, .int .i64 fb, .int .i64 fa] 26)).alloc (.cells #[.int .i64 tr, .int .i64 tg, .int .i64 tb, .int .i64 ta] 26)).alloc (.cells #[.int .i64 0, .int .i64 0, .int .i64 0, .int .i64 0] 26)) = V := ⟨_, rfl⟩
  have HV : Hid (∀ v, Below V.heap.size V v → C4 v w.heap.size (.int .i64 fr) (.int .i64 fg) (.int .i64 fb) (.int .i64 fa) ∧ C4 v (w.heap.size + 1) (.int .i64 tr) (.int .i64 tg) (.int .i64 tb) (.int .i64 ta) ∧ C4 v (w.heap.size + 1 + 1) (.int .i64 0) (.int .i64 0) (.int .i64 0) (.int .i64 0) ∧ Below w.heap.size w v) := fun v b => by
    rw [← hV] at b
    have h0 := ((C4.new w 26 (.int .i64 fr) (.int .i64 fg) (.int .i64 fb) (.int .i64 fa)).next (alloc_b (o := (.cells #[.int .i64 tr, .int .i64 tg, .int .i64 tb, .int .i64 ta] 26)))).next (alloc_b (o := (.cells #[.int .i64 0, .int .i64 0, .int .i64 0, .int .i64 0] 26)))
    have h1 := (C4.new (w.alloc (.cells #[.int .i64 fr, .int .i64 fg, .int .i64 fb, .int .i64 fa] 26)) 26 (.int .i64 tr) (.int .i64 tg) (.int .i64 tb) (.int .i64 ta)).next (alloc_b (o := (.cells #[.int .i64 0, .int .i64 0, .int .i64 0, .int .i64 0] 26)))
    have h2 := C4.new ((w.alloc (.cells #[.int .i64 fr, .int .i64 fg, .int .i64 fb, .int .i64 fa] 26)).alloc (.cells #[.int .i64 tr, .int .i64 tg, .int .i64 tb, .int .i64 ta] 26)) 26 (.int .i64 0) (.int .i64 0) (.int .i64 0) (.int .i64 0)
    rw [World.size_alloc] at h1
    rw [World.size_alloc, World.size_alloc] at h2
    exact ⟨h0.next b, h1.next b, h2.next b, (((alloc_b).trans ((alloc_b).mono (by simp))).trans ((alloc_b).mono (by simp; omega))).trans (b.mono (by simp; omega))⟩
  have HVE := Hid.mk hV
  clear hV
  obtain ⟨X0, X1, X2, BV⟩ := HV.out V (Below.refl _ _)
  (have a0 := X0.c0)
  (have a1 := X0.c1)
  (have a2 := X0.c2)
  (have a3 := X0.c3)
  (have c0 := X1.c0)
  (have c1 := X1.c1)
  (have c2 := X1.c2)
  (have c3 := X1.c3)
  (have e0 := X2.c0)
  (have e1 := X2.c1)
  (have e2 := X2.c2)
  (have e3 := X2.c3)
  have ef := X2.f
  clear X0 X1 X2
  cases g1
  case false =>
    clear HT HB
    simp only [Bool.false_and]
    go_enter Try.func31, Try.ntmps31
    go_upto_region 1 with fail
    rw [HVE.out]
    clear HVE
    go_wp2_with (first | (go_at_call 54; (with_reducible show Calls Try.prog 54 #[.agg #[.int .i64 fr, .int .i64 fg, .int .i64 fb, .int .i64 fa]] _ _); refine (HF.out _).mono ?_; rintro r2 w2 ⟨rfl, T2⟩; obtain ⟨X0, X1, X2, D2⟩ := HV.out w2 T2; clear a0 a1 a2 a3 c0 c1 c2 c3 e0 e1 e2 e3 ef; (have a0 := X0.c0); (have a1 := X0.c1); (have a2 := X0.c2); (have a3 := X0.c3); (have af := X0.f); (have c0 := X1.c0); (have c1 := X1.c1); (have c2 := X1.c2); (have c3 := X1.c3); (have e0 := X2.c0); (have e1 := X2.c1); (have e2 := X2.c2); (have e3 := X2.c3); (have ef := X2.f)))
    have YD := X2.put (.int .i64 0) (.int .i64 0) (.int .i64 0) (.int .i64 0)
    have BE := D2.trans ((only_set4 w2 (w.heap.size + 1 + 1) (.int .i64 0) (.int .i64 0) (.int .i64 0) (.int .i64 0)).below (by omega) D2.size)
    unfold set4 at YD BE
    have y0 := YD.c0
    have y1 := YD.c1
    have y2 := YD.c2
    have y3 := YD.c3
    exact bodyPost_ret (v := .tuple #[.agg #[.int .i64 0, .int .i64 0, .int .i64 0, .int .i64 0], .bool false]) (by simp [results, Try.results31, go_sem, y0, y1, y2, y3]) rfl ⟨rfl, BE⟩
  cases g2
  case false =>
    clear HB
    simp only [Bool.and_false]
    go_enter Try.func31, Try.ntmps31
    go_upto_region 1 with fail
    rw [HVE.out]
    clear HVE
    go_wp2_with (first | (go_at_call 54; (with_reducible show Calls Try.prog 54 #[.agg #[.int .i64 fr, .int .i64 fg, .int .i64 fb, .int .i64 fa]] _ _); refine (HF.out _).mono ?_; rintro r2 w2 ⟨rfl, T2⟩; obtain ⟨X0, X1, X2, D2⟩ := HV.out w2 T2; clear a0 a1 a2 a3 c0 c1 c2 c3 e0 e1 e2 e3 ef; (have a0 := X0.c0); (have a1 := X0.c1); (have a2 := X0.c2); (have a3 := X0.c3); (have af := X0.f); (have c0 := X1.c0); (have c1 := X1.c1); (have c2 := X1.c2); (have c3 := X1.c3); (have e0 := X2.c0); (have e1 := X2.c1); (have e2 := X2.c2); (have e3 := X2.c3); (have ef := X2.f)) | (go_at_call 54; (with_reducible show Calls Try.prog 54 #[.agg #[.int .i64 tr, .int .i64 tg, .int .i64 tb, .int .i64 ta]] _ _); refine (HT.out _).mono ?_; rintro r3 w3 ⟨rfl, B3⟩; (have T3 := T2.trans (B3.mono T2.size)); clear X0 X1 X2 af; obtain ⟨X0, X1, X2, D3⟩ := HV.out w3 T3; clear a0 a1 a2 a3 c0 c1 c2 c3 e0 e1 e2 e3 ef; (have a0 := X0.c0); (have a1 := X0.c1); (have a2 := X0.c2); (have a3 := X0.c3); (have af := X0.f); (have c0 := X1.c0); (have c1 := X1.c1); (have c2 := X1.c2); (have c3 := X1.c3); (have e0 := X2.c0); (have e1 := X2.c1); (have e2 := X2.c2); (have e3 := X2.c3); (have ef := X2.f)))
    have YD := X2.put (.int .i64 0) (.int .i64 0) (.int .i64 0) (.int .i64 0)
    have BE := D3.trans ((only_set4 w3 (w.heap.size + 1 + 1) (.int .i64 0) (.int .i64 0) (.int .i64 0) (.int .i64 0)).below (by omega) D3.size)
    unfold set4 at YD BE
    have y0 := YD.c0
    have y1 := YD.c1
    have y2 := YD.c2
    have y3 := YD.c3
    exact bodyPost_ret (v := .tuple #[.agg #[.int .i64 0, .int .i64 0, .int .i64 0, .int .i64 0], .bool false]) (by simp [results, Try.results31, go_sem, y0, y1, y2, y3]) rfl ⟨rfl, BE⟩
  have HB2 := Hid.mk (HB.out rfl rfl)
  clear HB
  simp only [Bool.and_true]
  go_enter Try.func31, Try.ntmps31
  go_upto_region 1 with fail
  rw [HVE.out]
  clear HVE
  go_wp2_with (first | (go_at_call 54; (with_reducible show Calls Try.prog 54 #[.agg #[.int .i64 fr, .int .i64 fg, .int .i64 fb, .int .i64 fa]] _ _); refine (HF.out _).mono ?_; rintro r2 w2 ⟨rfl, T2⟩; obtain ⟨X0, X1, X2, D2⟩ := HV.out w2 T2; clear a0 a1 a2 a3 c0 c1 c2 c3 e0 e1 e2 e3 ef; (have a0 := X0.c0); (have a1 := X0.c1); (have a2 := X0.c2); (have a3 := X0.c3); (have af := X0.f); (have c0 := X1.c0); (have c1 := X1.c1); (have c2 := X1.c2); (have c3 := X1.c3); (have e0 := X2.c0); (have e1 := X2.c1); (have e2 := X2.c2); (have e3 := X2.c3); (have ef := X2.f)) | (go_at_call 54; (with_reducible show Calls Try.prog 54 #[.agg #[.int .i64 tr, .int .i64 tg, .int .i64 tb, .int .i64 ta]] _ _); refine (HT.out _).mono ?_; rintro r3 w3 ⟨rfl, B3⟩; (have T3 := T2.trans (B3.mono T2.size)); clear X0 X1 X2 af; obtain ⟨X0, X1, X2, D3⟩ := HV.out w3 T3; clear a0 a1 a2 a3 c0 c1 c2 c3 e0 e1 e2 e3 ef; (have a0 := X0.c0); (have a1 := X0.c1); (have a2 := X0.c2); (have a3 := X0.c3); (have af := X0.f); (have c0 := X1.c0); (have c1 := X1.c1); (have c2 := X1.c2); (have c3 := X1.c3); (have e0 := X2.c0); (have e1 := X2.c1); (have e2 := X2.c2); (have e3 := X2.c3); (have ef := X2.f)) | (go_at_call 68; refine (HB2.out _).mono ?_; rintro r4 w4 ⟨rfl, B4⟩; (have T4 := T3.trans (B4.mono T3.size)); clear X0 X1 X2 af; obtain ⟨X0, X1, X2, D4⟩ := HV.out w4 T4; clear a0 a1 a2 a3 c0 c1 c2 c3 e0 e1 e2 e3 ef; (have a0 := X0.c0); (have a1 := X0.c1); (have a2 := X0.c2); (have a3 := X0.c3); (have af := X0.f); (have c0 := X1.c0); (have c1 := X1.c1); (have c2 := X1.c2); (have c3 := X1.c3); (have e0 := X2.c0); (have e1 := X2.c1); (have e2 := X2.c2); (have e3 := X2.c3); (have ef := X2.f)))
  have YD := X2.put (.int .i64 q.r) (.int .i64 q.g) (.int .i64 q.b) (.int .i64 q.a)
  have BE := D4.trans ((only_set4 w4 (w.heap.size + 1 + 1) (.int .i64 q.r) (.int .i64 q.g) (.int .i64 q.b) (.int .i64 q.a)).below (by omega) D4.size)
  unfold set4 at YD BE
  have y0 := YD.c0
  have y1 := YD.c1
  have y2 := YD.c2
  have y3 := YD.c3
  exact bodyPost_ret (v := .tuple #[.agg #[.int .i64 q.r, .int .i64 q.g, .int .i64 q.b, .int .i64 q.a], .bool true]) (by simp [results, Try.results31, go_sem, y0, y1, y2, y3]) rfl ⟨rfl, BE⟩
set_option maxRecDepth 100000 in
set_option maxHeartbeats 8000000 in
theorem pbc (fr fg fb fa tr tg tb ta : Int) (w : World) : Calls Try.prog 33 #[.agg #[.int .i64 fr, .int .i64 fg, .int .i64 fb, .int .i64 fa], .agg #[.int .i64 tr, .int .i64 tg, .int .i64 tb, .int .i64 ta]] w fun e w' => e = .returned (.tuple #[colV (bcC fr fg fb fa tr tg tb ta), .bool (bcB fr fg fb fa tr tg tb ta)]) ∧ Below w.heap.size w w' := by
  have HF : Hid (∀ w', Calls Try.prog 59 #[.agg #[.int .i64 fr, .int .i64 fg, .int .i64 fb, .int .i64 fa]] w' fun e w'' => e = .returned (.bool (gdC fr fg fb fa)) ∧ Below w'.heap.size w' w'') := fun w' => good13 fr fg fb fa w'
  have HT : Hid (∀ w', Calls Try.prog 59 #[.agg #[.int .i64 tr, .int .i64 tg, .int .i64 tb, .int .i64 ta]] w' fun e w'' => e = .returned (.bool (gdC tr tg tb ta)) ∧ Below w'.heap.size w' w'') := fun w' => good13 tr tg tb ta w'
  obtain ⟨k, hk⟩ : ∃ k, 255 - fa = k := ⟨_, rfl⟩
  have HB : Hid (gdC fr fg fb fa = true → gdC tr tg tb ta = true → ∀ (v : World) (ty : TypeId) (g : Nat), g = v.heap.size → Calls Try.prog 69 #[.slice (some ⟨g, 0, none⟩) 2 2] (v.alloc (.cells #[.int .i64 fr, .int .i64 fg, .int .i64 fb, .int .i64 255, .int .i64 fa, .int .i64 tr, .int .i64 tg, .int .i64 tb, .int .i64 ta, .int .i64 k] ty)) fun e w' => e = .returned (colV (blM fr fg fb fa tr tg tb ta)) ∧ Below v.heap.size (v.alloc (.cells #[.int .i64 fr, .int .i64 fg, .int .i64 fb, .int .i64 255, .int .i64 fa, .int .i64 tr, .int .i64 tg, .int .i64 tb, .int .i64 ta, .int .i64 k] ty)) w') := fun a b v ty g hg => pbl2 v ty g hg fr fg fb fa tr tg tb ta k hk a b
  have wk : gdC fr fg fb fa = true → IntKind.i64.wrap (255 - fa) = k := fun h => by have := (gdC_iff.1 h).2.2.2; rw [hk]; exact (IntKind.wrap_i64 _).trans (by omega)
  have HK := Hid.mk wk
  clear wk hk
  unfold bcC bcB
  generalize blM fr fg fb fa tr tg tb ta = q at HB ⊢
  generalize gdC fr fg fb fa = g1 at HF HB HK ⊢
  generalize gdC tr tg tb ta = g2 at HT HB ⊢
  unfold colV at HB ⊢
  obtain ⟨V, hV⟩ : ∃ V, (((w.alloc (.cells #[.int .i64 fr, .int .i64 fg, .int .i64 fb, .int .i64 fa] 26)).alloc (.cells #[.int .i64 tr, .int .i64 tg, .int .i64 tb, .int .i64 ta] 26)).alloc (.cells #[.int .i64 0, .int .i64 0, .int .i64 0, .int .i64 0] 26)) = V := ⟨_, rfl⟩
  have HV : Hid (∀ v, Below V.heap.size V v → C4 v w.heap.size (.int .i64 fr) (.int .i64 fg) (.int .i64 fb) (.int .i64 fa) ∧ C4 v (w.heap.size + 1) (.int .i64 tr) (.int .i64 tg) (.int .i64 tb) (.int .i64 ta) ∧ C4 v (w.heap.size + 1 + 1) (.int .i64 0) (.int .i64 0) (.int .i64 0) (.int .i64 0) ∧ Below w.heap.size w v) := fun v b => by
    rw [← hV] at b
    have h0 := ((C4.new w 26 (.int .i64 fr) (.int .i64 fg) (.int .i64 fb) (.int .i64 fa)).next (alloc_b (o := (.cells #[.int .i64 tr, .int .i64 tg, .int .i64 tb, .int .i64 ta] 26)))).next (alloc_b (o := (.cells #[.int .i64 0, .int .i64 0, .int .i64 0, .int .i64 0] 26)))
    have h1 := (C4.new (w.alloc (.cells #[.int .i64 fr, .int .i64 fg, .int .i64 fb, .int .i64 fa] 26)) 26 (.int .i64 tr) (.int .i64 tg) (.int .i64 tb) (.int .i64 ta)).next (alloc_b (o := (.cells #[.int .i64 0, .int .i64 0, .int .i64 0, .int .i64 0] 26)))
    have h2 := C4.new ((w.alloc (.cells #[.int .i64 fr, .int .i64 fg, .int .i64 fb, .int .i64 fa] 26)).alloc (.cells #[.int .i64 tr, .int .i64 tg, .int .i64 tb, .int .i64 ta] 26)) 26 (.int .i64 0) (.int .i64 0) (.int .i64 0) (.int .i64 0)
    rw [World.size_alloc] at h1
    rw [World.size_alloc, World.size_alloc] at h2
    exact ⟨h0.next b, h1.next b, h2.next b, (((alloc_b).trans ((alloc_b).mono (by simp))).trans ((alloc_b).mono (by simp; omega))).trans (b.mono (by simp; omega))⟩
  have HVE := Hid.mk hV
  clear hV
  obtain ⟨X0, X1, X2, BV⟩ := HV.out V (Below.refl _ _)
  (have a0 := X0.c0)
  (have a1 := X0.c1)
  (have a2 := X0.c2)
  (have a3 := X0.c3)
  (have c0 := X1.c0)
  (have c1 := X1.c1)
  (have c2 := X1.c2)
  (have c3 := X1.c3)
  (have e0 := X2.c0)
  (have e1 := X2.c1)
  (have e2 := X2.c2)
  (have e3 := X2.c3)
  have ef := X2.f
  clear X0 X1 X2
  cases g1
  case false =>
    clear HT HB
    simp only [Bool.false_and]
    go_enter Try.func33, Try.ntmps33
    go_upto_region 1 with fail
    rw [HVE.out]
    clear HVE
    go_wp2_with (first | (go_at_call 59; (with_reducible show Calls Try.prog 59 #[.agg #[.int .i64 fr, .int .i64 fg, .int .i64 fb, .int .i64 fa]] _ _); refine (HF.out _).mono ?_; rintro r2 w2 ⟨rfl, T2⟩; obtain ⟨X0, X1, X2, D2⟩ := HV.out w2 T2; clear a0 a1 a2 a3 c0 c1 c2 c3 e0 e1 e2 e3 ef; (have a0 := X0.c0); (have a1 := X0.c1); (have a2 := X0.c2); (have a3 := X0.c3); (have af := X0.f); (have c0 := X1.c0); (have c1 := X1.c1); (have c2 := X1.c2); (have c3 := X1.c3); (have e0 := X2.c0); (have e1 := X2.c1); (have e2 := X2.c2); (have e3 := X2.c3); (have ef := X2.f)))
    have YD := X2.put (.int .i64 0) (.int .i64 0) (.int .i64 0) (.int .i64 0)
    have BE := D2.trans ((only_set4 w2 (w.heap.size + 1 + 1) (.int .i64 0) (.int .i64 0) (.int .i64 0) (.int .i64 0)).below (by omega) D2.size)
    unfold set4 at YD BE
    have y0 := YD.c0
    have y1 := YD.c1
    have y2 := YD.c2
    have y3 := YD.c3
    exact bodyPost_ret (v := .tuple #[.agg #[.int .i64 0, .int .i64 0, .int .i64 0, .int .i64 0], .bool false]) (by simp [results, Try.results33, go_sem, y0, y1, y2, y3]) rfl ⟨rfl, BE⟩
  cases g2
  case false =>
    clear HB
    simp only [Bool.and_false]
    go_enter Try.func33, Try.ntmps33
    go_upto_region 1 with fail
    rw [HVE.out]
    clear HVE
    go_wp2_with (first | (go_at_call 59; (with_reducible show Calls Try.prog 59 #[.agg #[.int .i64 fr, .int .i64 fg, .int .i64 fb, .int .i64 fa]] _ _); refine (HF.out _).mono ?_; rintro r2 w2 ⟨rfl, T2⟩; obtain ⟨X0, X1, X2, D2⟩ := HV.out w2 T2; clear a0 a1 a2 a3 c0 c1 c2 c3 e0 e1 e2 e3 ef; (have a0 := X0.c0); (have a1 := X0.c1); (have a2 := X0.c2); (have a3 := X0.c3); (have af := X0.f); (have c0 := X1.c0); (have c1 := X1.c1); (have c2 := X1.c2); (have c3 := X1.c3); (have e0 := X2.c0); (have e1 := X2.c1); (have e2 := X2.c2); (have e3 := X2.c3); (have ef := X2.f)) | (go_at_call 59; (with_reducible show Calls Try.prog 59 #[.agg #[.int .i64 tr, .int .i64 tg, .int .i64 tb, .int .i64 ta]] _ _); refine (HT.out _).mono ?_; rintro r3 w3 ⟨rfl, B3⟩; (have T3 := T2.trans (B3.mono T2.size)); clear X0 X1 X2 af; obtain ⟨X0, X1, X2, D3⟩ := HV.out w3 T3; clear a0 a1 a2 a3 c0 c1 c2 c3 e0 e1 e2 e3 ef; (have a0 := X0.c0); (have a1 := X0.c1); (have a2 := X0.c2); (have a3 := X0.c3); (have af := X0.f); (have c0 := X1.c0); (have c1 := X1.c1); (have c2 := X1.c2); (have c3 := X1.c3); (have e0 := X2.c0); (have e1 := X2.c1); (have e2 := X2.c2); (have e3 := X2.c3); (have ef := X2.f)))
    have YD := X2.put (.int .i64 0) (.int .i64 0) (.int .i64 0) (.int .i64 0)
    have BE := D3.trans ((only_set4 w3 (w.heap.size + 1 + 1) (.int .i64 0) (.int .i64 0) (.int .i64 0) (.int .i64 0)).below (by omega) D3.size)
    unfold set4 at YD BE
    have y0 := YD.c0
    have y1 := YD.c1
    have y2 := YD.c2
    have y3 := YD.c3
    exact bodyPost_ret (v := .tuple #[.agg #[.int .i64 0, .int .i64 0, .int .i64 0, .int .i64 0], .bool false]) (by simp [results, Try.results33, go_sem, y0, y1, y2, y3]) rfl ⟨rfl, BE⟩
  have HB2 := Hid.mk (HB.out rfl rfl)
  clear HB
  simp only [Bool.and_true]
  have wk := HK.out rfl
  go_enter Try.func33, Try.ntmps33
  go_upto_region 1 with fail
  rw [HVE.out]
  clear HVE
  go_wp2_with (first | (go_at_call 59; (with_reducible show Calls Try.prog 59 #[.agg #[.int .i64 fr, .int .i64 fg, .int .i64 fb, .int .i64 fa]] _ _); refine (HF.out _).mono ?_; rintro r2 w2 ⟨rfl, T2⟩; obtain ⟨X0, X1, X2, D2⟩ := HV.out w2 T2; clear a0 a1 a2 a3 c0 c1 c2 c3 e0 e1 e2 e3 ef; (have a0 := X0.c0); (have a1 := X0.c1); (have a2 := X0.c2); (have a3 := X0.c3); (have af := X0.f); (have c0 := X1.c0); (have c1 := X1.c1); (have c2 := X1.c2); (have c3 := X1.c3); (have e0 := X2.c0); (have e1 := X2.c1); (have e2 := X2.c2); (have e3 := X2.c3); (have ef := X2.f)) | (go_at_call 59; (with_reducible show Calls Try.prog 59 #[.agg #[.int .i64 tr, .int .i64 tg, .int .i64 tb, .int .i64 ta]] _ _); refine (HT.out _).mono ?_; rintro r3 w3 ⟨rfl, B3⟩; (have T3 := T2.trans (B3.mono T2.size)); clear X0 X1 X2 af; obtain ⟨X0, X1, X2, D3⟩ := HV.out w3 T3; clear a0 a1 a2 a3 c0 c1 c2 c3 e0 e1 e2 e3 ef; (have a0 := X0.c0); (have a1 := X0.c1); (have a2 := X0.c2); (have a3 := X0.c3); (have af := X0.f); (have c0 := X1.c0); (have c1 := X1.c1); (have c2 := X1.c2); (have c3 := X1.c3); (have e0 := X2.c0); (have e1 := X2.c1); (have e2 := X2.c2); (have e3 := X2.c3); (have ef := X2.f)) | (go_at_call 69; refine (HB2.out _ _ _ (by simp)).mono ?_; rintro r4 w4 ⟨rfl, B4⟩; (have X4 := (X2.block (Below.heap_setCell w3 ⟨w.heap.size, 3, none⟩ (.int .i64 255) (w.heap.size + 1 + 1) (by show w.heap.size + 1 + 1 ≠ w.heap.size; omega)) (by simp)).next ((alloc_b).trans (B4.mono (by simp)))); (have D4 : Below w.heap.size w w4 := (D3.setCell (p := ⟨w.heap.size, 3, none⟩) (Nat.le_refl _) (.int .i64 255)).trans (((alloc_b).trans (B4.mono (by simp))).mono (by have := D3.size; simp; omega))); clear e0 e1 e2 e3 ef; (have e0 := X4.c0); (have e1 := X4.c1); (have e2 := X4.c2); (have e3 := X4.c3); (have ef := X4.f)))
  have YD := X4.put (.int .i64 q.r) (.int .i64 q.g) (.int .i64 q.b) (.int .i64 q.a)
  have BE := D4.trans ((only_set4 w4 (w.heap.size + 1 + 1) (.int .i64 q.r) (.int .i64 q.g) (.int .i64 q.b) (.int .i64 q.a)).below (by omega) D4.size)
  unfold set4 at YD BE
  have y0 := YD.c0
  have y1 := YD.c1
  have y2 := YD.c2
  have y3 := YD.c3
  exact bodyPost_ret (v := .tuple #[.agg #[.int .i64 q.r, .int .i64 q.g, .int .i64 q.b, .int .i64 q.a], .bool true]) (by simp [results, Try.results33, go_sem, y0, y1, y2, y3]) rfl ⟨rfl, BE⟩
end Go.Proofs.Ytglhlpbaaoekgaa
