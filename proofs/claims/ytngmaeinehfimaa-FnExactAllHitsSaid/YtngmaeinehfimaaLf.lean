/- What a ray meets: moments of the program. -/
import Derived.Test.YtngmaeinehfimaaLe
import Derived.Deep.Cut
import Derived.Deep.DeepCutAuto
import Derived.Deep.CutBlock
import Derived.BigQuiet
namespace Go.Proofs.Ytngmaeinehfimaa
open Go.ChangeShapes Go.WideShapes Go.ChangeAt Go.RowKit
set_option linter.unusedVariables false
/-- A row of three. -/
def R3 (w : World) (v : Value) (f : Nat → Int) : Prop := ∃ g o c, v = .slice (some ⟨g, o, none⟩) 3 c ∧ ∀ i, i < 3 → w.cell? ⟨g, o + i, none⟩ = some (.int .i64 (f i))
theorem R3.next {w w' : World} {v : Value} {f : Nat → Int} (h : R3 w v f) (b : Below w.heap.size w w') : R3 w' v f := by
  obtain ⟨g, o, c, e, h⟩ := h
  exact ⟨g, o, c, e, fun i hi => cell_nx (h i hi) b⟩
theorem r3_of {w : World} {v : Value} {L : List Int} (U : ARow w v L) (h : L.length = 3) : R3 w v (fun i => L.getD i 0) := by
  obtain ⟨ad, c, rfl, hx⟩ := U
  rw [h] at hx ⊢
  obtain ⟨g, o, rfl, h0⟩ := hx 0 (by omega)
  refine ⟨g, o, c, rfl, fun i hi => ?_⟩
  obtain ⟨g', o', e1, h⟩ := hx i hi
  injection e1 with e1
  injection e1 with e1 e2
  subst e1; subst e2
  exact h
theorem only_nx {o : Nat} {v v' : World} {p : Addr} {u : Value} (h : v.cell? p = some u) (k : Only o v v') (hne : p.block ≠ o) : v'.cell? p = some u := (World.cell?_of_block (w := v) (a := p) (k.block p.block (World.block_lt_of_cell? _ p h) hne)).trans h
/-- How two numbers compare. -/
def cmS (a b : Int) : Int := if a < b then -1 else if b < a then 1 else 0
theorem cmS_pos {a b : Int} : 0 < cmS a b ↔ b < a := by unfold cmS; split <;> (try split) <;> omega
set_option maxHeartbeats 2000000 in
theorem pcmp (a b : Int) (w : World) : Calls Try.prog 93 #[.int .i64 a, .int .i64 b] w fun e w' => e = .returned (.int .i64 (cmS a b)) ∧ w' = w := by
  have HN : Hid (∀ x : Int, ∀ w : World, Calls Try.prog 106 #[.int .i64 x] w fun e w' => e = .returned (.bool false) ∧ w' = w) := fun x w => by
    go_enter Try.func106, Try.ntmps106
    go_wp2
    go_ret
    first | exact ⟨rfl, rfl⟩ | (refine ⟨?_, rfl⟩; simp)
  have hcase : a < b ∨ b < a ∨ a = b := by omega
  rcases hcase with h | h | h
  · have e : cmS a b = -1 := if_pos h
    rw [e]
    clear e
    go_enter Try.func93, Try.ntmps93
    go_wp2_with (go_at_call 106; refine (HN.out _ _).mono ?_; rintro e w2 ⟨rfl, hw⟩; subst w2)
    go_ret
    exact ⟨rfl, rfl⟩
  · have e : cmS a b = 1 := by unfold cmS; rw [if_neg (by omega), if_pos h]
    have h2 : ¬ a < b := by omega
    rw [e]
    clear e
    go_enter Try.func93, Try.ntmps93
    go_wp2_with (go_at_call 106; refine (HN.out _ _).mono ?_; rintro e w2 ⟨rfl, hw⟩; subst w2)
    go_ret
    exact ⟨rfl, rfl⟩
  · subst h
    have e : cmS a a = 0 := by unfold cmS; rw [if_neg (by omega), if_neg (by omega)]
    have h2 : ¬ a < a := by omega
    rw [e]
    clear e
    go_enter Try.func93, Try.ntmps93
    go_wp2_with (go_at_call 106; refine (HN.out _ _).mono ?_; rintro e w2 ⟨rfl, hw⟩; subst w2)
    go_ret
    exact ⟨rfl, rfl⟩
/-- A moment that may be compared with another one. -/
def MB (n d : Int) : Prop := (-2000 ≤ n ∧ n ≤ 2000) ∧ 0 < d ∧ d ≤ 1000
theorem mb_mul {n d m e : Int} (h : MB n d) (k : MB m e) : -2000000 ≤ n * e ∧ n * e ≤ 2000000 := by
  have h1 : (n * e).natAbs ≤ 2000 * 1000 := by
    rw [Int.natAbs_mul]
    exact Nat.mul_le_mul (by have := h.1; omega) (by have := k.2; omega)
  omega
set_option maxHeartbeats 2000000 in
theorem pcompare (n d m e : Int) (w : World) (h : MB n d) (k : MB m e) : Calls Try.prog 83 #[.agg #[.int .i64 n, .int .i64 d], .agg #[.int .i64 m, .int .i64 e]] w fun r w' => r = .returned (.int .i64 (cmS (n * e) (m * d))) ∧ Below w.heap.size w w' := by
  have b1 := mb_mul h k
  have b2 := mb_mul k h
  have HC := Hid.mk (pcmp (n * e) (m * d))
  generalize cmS (n * e) (m * d) = s at HC ⊢
  have e1 : IntKind.i64.wrap (n * e) = n * e := (IntKind.wrap_i64 _).trans (by omega)
  have e2 : IntKind.i64.wrap (m * d) = m * d := (IntKind.wrap_i64 _).trans (by omega)
  clear h k
  go_enter Try.func83, Try.ntmps83
  go_wp2_with (go_at_call 93; refine (HC.out _).mono ?_; rintro r w2 ⟨rfl, hw⟩; subst w2)
  go_ret
  exact ⟨rfl, (alloc_b).trans ((alloc_b).mono (by simp))⟩
theorem mul1k {a d : Int} (h : -1000 ≤ a ∧ a ≤ 1000) (k : 0 < d ∧ d ≤ 1000) : -1000000 ≤ a * d ∧ a * d ≤ 1000000 := by
  have h1 : (a * d).natAbs ≤ 1000 * 1000 := by
    rw [Int.natAbs_mul]
    exact Nat.mul_le_mul (by omega) (by omega)
  omega
theorem mul2k {a n : Int} (h : -1000 ≤ a ∧ a ≤ 1000) (k : -2000 ≤ n ∧ n ≤ 2000) : -2000000 ≤ a * n ∧ a * n ≤ 2000000 := by
  have h1 : (a * n).natAbs ≤ 1000 * 2000 := by
    rw [Int.natAbs_mul]
    exact Nat.mul_le_mul (by omega) (by omega)
  omega
set_option maxRecDepth 100000 in
set_option maxHeartbeats 4000000 in
theorem pcomes (k : Nat) (hk : k < 3) (la ha fa wa : Value) (L H F W : Nat → Int) (w : World) (RL : R3 w la L) (RH : R3 w ha H) (RF : R3 w fa F) (RW : R3 w wa W) (iL : InC 3 L) (iH : InC 3 H) (iF : InC 3 F) (iW : InC 3 W) : Calls Try.prog 82 #[.agg #[fa, wa], .agg #[la, ha], .int .i64 k] w fun e w' => e = .returned (.agg #[.int .i64 (cN (L k) (H k) (F k) (W k)), .int .i64 (cD (W k))]) ∧ Below w.heap.size w w' := by
  obtain ⟨Lg, Lo, Lc, rfl, Lh⟩ := RL
  obtain ⟨Hg, Ho, Hc, rfl, Hh⟩ := RH
  obtain ⟨Fg, Fo, Fc, rfl, Fh⟩ := RF
  obtain ⟨Wg, Wo, Wc, rfl, Wh⟩ := RW
  have bL := iL k hk
  have bH := iH k hk
  have bF := iF k hk
  have bW := iW k hk
  have hcase : 0 < W k ∨ W k < 0 ∨ W k = 0 := by omega
  rcases hcase with h0 | h0 | h0
  · skip
    obtain ⟨V, hV⟩ : ∃ V, (((w.alloc (.cells #[.slice (some ⟨Fg, Fo, none⟩) 3 Fc, .slice (some ⟨Wg, Wo, none⟩) 3 Wc] 35)).alloc (.cells #[.slice (some ⟨Lg, Lo, none⟩) 3 Lc, .slice (some ⟨Hg, Ho, none⟩) 3 Hc] 27)).alloc (.cells #[.int .i64 0, .int .i64 0] 85)) = V := ⟨_, rfl⟩
    have BV : Below w.heap.size w V := by rw [← hV]; exact ((alloc_b).trans ((alloc_b).mono (by simp))).trans ((alloc_b).mono (by simp; omega))
    have X0 : C2 V (w.heap.size) (.slice (some ⟨Fg, Fo, none⟩) 3 Fc) (.slice (some ⟨Wg, Wo, none⟩) 3 Wc) := by
      have h := ((C2.new w 35 (.slice (some ⟨Fg, Fo, none⟩) 3 Fc) (.slice (some ⟨Wg, Wo, none⟩) 3 Wc)).next (alloc_b (o := .cells #[.slice (some ⟨Lg, Lo, none⟩) 3 Lc, .slice (some ⟨Hg, Ho, none⟩) 3 Hc] 27))).next (alloc_b (o := .cells #[.int .i64 0, .int .i64 0] 85))
      rw [hV] at h
      exact h
    have X1 : C2 V (w.heap.size + 1) (.slice (some ⟨Lg, Lo, none⟩) 3 Lc) (.slice (some ⟨Hg, Ho, none⟩) 3 Hc) := by
      have h := (C2.new (w.alloc (.cells #[.slice (some ⟨Fg, Fo, none⟩) 3 Fc, .slice (some ⟨Wg, Wo, none⟩) 3 Wc] 35)) 27 (.slice (some ⟨Lg, Lo, none⟩) 3 Lc) (.slice (some ⟨Hg, Ho, none⟩) 3 Hc)).next (alloc_b (o := .cells #[.int .i64 0, .int .i64 0] 85))
      rw [hV] at h
      simpa only [World.size_alloc] using h
    have X2 : C2 V (w.heap.size + 1 + 1) (.int .i64 0) (.int .i64 0) := by
      have h := C2.new ((w.alloc (.cells #[.slice (some ⟨Fg, Fo, none⟩) 3 Fc, .slice (some ⟨Wg, Wo, none⟩) 3 Wc] 35)).alloc (.cells #[.slice (some ⟨Lg, Lo, none⟩) 3 Lc, .slice (some ⟨Hg, Ho, none⟩) 3 Hc] 27)) 85 (.int .i64 0) (.int .i64 0)
      rw [hV] at h
      simpa only [World.size_alloc] using h
    have HVE := Hid.mk hV
    clear hV
    clear iL iH iF iW
    have pL := cell_nx (Lh k hk) BV
    have pH := cell_nx (Hh k hk) BV
    have pF := cell_nx (Fh k hk) BV
    have pW := cell_nx (Wh k hk) BV
    generalize L k = lk at pL bL ⊢
    generalize H k = hk1 at pH bH ⊢
    generalize F k = fk at pF bF ⊢
    generalize W k = wk at pW bW h0 ⊢
    clear Lh Hh Fh Wh
    have k0 : (0 : Int) ≤ (k : Int) := by omega
    have k3 : (k : Int) < 3 := by omega
    have e0 : cN lk hk1 fk wk = lk - fk := if_pos h0
    have e1 : cD wk = wk := if_pos h0
    have w0 : IntKind.i64.wrap (lk - fk) = lk - fk := (IntKind.wrap_i64 _).trans (by omega)
    rw [e0, e1]
    clear e0 e1
    have x00 := X0.c0
    have x01 := X0.c1
    have x10 := X1.c0
    have x11 := X1.c1
    have t0 := X2.c0
    have t1 := X2.c1
    have tf := X2.f
    have XD := X2
    have BD : Below w.heap.size w V := BV
    have YD := (XD.s0 (.int .i64 (lk - fk))).s1 (.int .i64 wk)
    have BE := (BD.setCell (p := ⟨w.heap.size + 1 + 1, 0, none⟩) (by simp; omega) (.int .i64 (lk - fk))).setCell (p := ⟨w.heap.size + 1 + 1, 1, none⟩) (by simp; omega) (.int .i64 wk)
    have y0 := YD.c0
    have y1 := YD.c1
    clear XD YD X0 X1 X2 BD
    go_enter Try.func82, Try.ntmps82
    go_upto_region 1 with fail
    rw [HVE.out]
    clear HVE
    go_wp2
    go_region
    go_wp2
    exact bodyPost_ret (v := .agg #[.int .i64 (lk - fk), .int .i64 wk]) (by simp [results, Try.results82, go_sem, y0, y1]) rfl ⟨rfl, below_drew BE⟩
  · skip
    obtain ⟨V, hV⟩ : ∃ V, (((w.alloc (.cells #[.slice (some ⟨Fg, Fo, none⟩) 3 Fc, .slice (some ⟨Wg, Wo, none⟩) 3 Wc] 35)).alloc (.cells #[.slice (some ⟨Lg, Lo, none⟩) 3 Lc, .slice (some ⟨Hg, Ho, none⟩) 3 Hc] 27)).alloc (.cells #[.int .i64 0, .int .i64 0] 85)) = V := ⟨_, rfl⟩
    have BV : Below w.heap.size w V := by rw [← hV]; exact ((alloc_b).trans ((alloc_b).mono (by simp))).trans ((alloc_b).mono (by simp; omega))
    have X0 : C2 V (w.heap.size) (.slice (some ⟨Fg, Fo, none⟩) 3 Fc) (.slice (some ⟨Wg, Wo, none⟩) 3 Wc) := by
      have h := ((C2.new w 35 (.slice (some ⟨Fg, Fo, none⟩) 3 Fc) (.slice (some ⟨Wg, Wo, none⟩) 3 Wc)).next (alloc_b (o := .cells #[.slice (some ⟨Lg, Lo, none⟩) 3 Lc, .slice (some ⟨Hg, Ho, none⟩) 3 Hc] 27))).next (alloc_b (o := .cells #[.int .i64 0, .int .i64 0] 85))
      rw [hV] at h
      exact h
    have X1 : C2 V (w.heap.size + 1) (.slice (some ⟨Lg, Lo, none⟩) 3 Lc) (.slice (some ⟨Hg, Ho, none⟩) 3 Hc) := by
      have h := (C2.new (w.alloc (.cells #[.slice (some ⟨Fg, Fo, none⟩) 3 Fc, .slice (some ⟨Wg, Wo, none⟩) 3 Wc] 35)) 27 (.slice (some ⟨Lg, Lo, none⟩) 3 Lc) (.slice (some ⟨Hg, Ho, none⟩) 3 Hc)).next (alloc_b (o := .cells #[.int .i64 0, .int .i64 0] 85))
      rw [hV] at h
      simpa only [World.size_alloc] using h
    have X2 : C2 V (w.heap.size + 1 + 1) (.int .i64 0) (.int .i64 0) := by
      have h := C2.new ((w.alloc (.cells #[.slice (some ⟨Fg, Fo, none⟩) 3 Fc, .slice (some ⟨Wg, Wo, none⟩) 3 Wc] 35)).alloc (.cells #[.slice (some ⟨Lg, Lo, none⟩) 3 Lc, .slice (some ⟨Hg, Ho, none⟩) 3 Hc] 27)) 85 (.int .i64 0) (.int .i64 0)
      rw [hV] at h
      simpa only [World.size_alloc] using h
    have HVE := Hid.mk hV
    clear hV
    clear iL iH iF iW
    have pL := cell_nx (Lh k hk) BV
    have pH := cell_nx (Hh k hk) BV
    have pF := cell_nx (Fh k hk) BV
    have pW := cell_nx (Wh k hk) BV
    generalize L k = lk at pL bL ⊢
    generalize H k = hk1 at pH bH ⊢
    generalize F k = fk at pF bF ⊢
    generalize W k = wk at pW bW h0 ⊢
    clear Lh Hh Fh Wh
    have k0 : (0 : Int) ≤ (k : Int) := by omega
    have k3 : (k : Int) < 3 := by omega
    have g0 : ¬ 0 < wk := by omega
    have e0 : cN lk hk1 fk wk = fk - hk1 := by unfold cN; rw [if_neg g0, if_pos h0]
    have e1 : cD wk = -wk := by unfold cD; rw [if_neg g0, if_pos h0]
    have w0 : IntKind.i64.wrap (fk - hk1) = fk - hk1 := (IntKind.wrap_i64 _).trans (by omega)
    have w1 : IntKind.i64.wrap (-wk) = -wk := (IntKind.wrap_i64 _).trans (by omega)
    rw [e0, e1]
    clear e0 e1
    have x00 := X0.c0
    have x01 := X0.c1
    have x10 := X1.c0
    have x11 := X1.c1
    have t0 := X2.c0
    have t1 := X2.c1
    have tf := X2.f
    have XD := X2
    have BD : Below w.heap.size w V := BV
    have YD := (XD.s0 (.int .i64 (fk - hk1))).s1 (.int .i64 (-wk))
    have BE := (BD.setCell (p := ⟨w.heap.size + 1 + 1, 0, none⟩) (by simp; omega) (.int .i64 (fk - hk1))).setCell (p := ⟨w.heap.size + 1 + 1, 1, none⟩) (by simp; omega) (.int .i64 (-wk))
    have y0 := YD.c0
    have y1 := YD.c1
    clear XD YD X0 X1 X2 BD
    go_enter Try.func82, Try.ntmps82
    go_upto_region 1 with fail
    rw [HVE.out]
    clear HVE
    go_wp2
    go_region
    go_wp2
    exact bodyPost_ret (v := .agg #[.int .i64 (fk - hk1), .int .i64 (-wk)]) (by simp [results, Try.results82, go_sem, y0, y1]) rfl ⟨rfl, below_drew BE⟩
  · skip
    obtain ⟨V, hV⟩ : ∃ V, (((w.alloc (.cells #[.slice (some ⟨Fg, Fo, none⟩) 3 Fc, .slice (some ⟨Wg, Wo, none⟩) 3 Wc] 35)).alloc (.cells #[.slice (some ⟨Lg, Lo, none⟩) 3 Lc, .slice (some ⟨Hg, Ho, none⟩) 3 Hc] 27)).alloc (.cells #[.int .i64 0, .int .i64 0] 85)) = V := ⟨_, rfl⟩
    have BV : Below w.heap.size w V := by rw [← hV]; exact ((alloc_b).trans ((alloc_b).mono (by simp))).trans ((alloc_b).mono (by simp; omega))
    have X0 : C2 V (w.heap.size) (.slice (some ⟨Fg, Fo, none⟩) 3 Fc) (.slice (some ⟨Wg, Wo, none⟩) 3 Wc) := by
      have h := ((C2.new w 35 (.slice (some ⟨Fg, Fo, none⟩) 3 Fc) (.slice (some ⟨Wg, Wo, none⟩) 3 Wc)).next (alloc_b (o := .cells #[.slice (some ⟨Lg, Lo, none⟩) 3 Lc, .slice (some ⟨Hg, Ho, none⟩) 3 Hc] 27))).next (alloc_b (o := .cells #[.int .i64 0, .int .i64 0] 85))
      rw [hV] at h
      exact h
    have X1 : C2 V (w.heap.size + 1) (.slice (some ⟨Lg, Lo, none⟩) 3 Lc) (.slice (some ⟨Hg, Ho, none⟩) 3 Hc) := by
      have h := (C2.new (w.alloc (.cells #[.slice (some ⟨Fg, Fo, none⟩) 3 Fc, .slice (some ⟨Wg, Wo, none⟩) 3 Wc] 35)) 27 (.slice (some ⟨Lg, Lo, none⟩) 3 Lc) (.slice (some ⟨Hg, Ho, none⟩) 3 Hc)).next (alloc_b (o := .cells #[.int .i64 0, .int .i64 0] 85))
      rw [hV] at h
      simpa only [World.size_alloc] using h
    have X2 : C2 V (w.heap.size + 1 + 1) (.int .i64 0) (.int .i64 0) := by
      have h := C2.new ((w.alloc (.cells #[.slice (some ⟨Fg, Fo, none⟩) 3 Fc, .slice (some ⟨Wg, Wo, none⟩) 3 Wc] 35)).alloc (.cells #[.slice (some ⟨Lg, Lo, none⟩) 3 Lc, .slice (some ⟨Hg, Ho, none⟩) 3 Hc] 27)) 85 (.int .i64 0) (.int .i64 0)
      rw [hV] at h
      simpa only [World.size_alloc] using h
    have HVE := Hid.mk hV
    clear hV
    clear iL iH iF iW
    have pL := cell_nx (Lh k hk) BV
    have pH := cell_nx (Hh k hk) BV
    have pF := cell_nx (Fh k hk) BV
    have pW := cell_nx (Wh k hk) BV
    generalize L k = lk at pL bL ⊢
    generalize H k = hk1 at pH bH ⊢
    generalize F k = fk at pF bF ⊢
    generalize W k = wk at pW bW h0 ⊢
    clear Lh Hh Fh Wh
    have k0 : (0 : Int) ≤ (k : Int) := by omega
    have k3 : (k : Int) < 3 := by omega
    subst h0
    have e0 : cN lk hk1 fk 0 = 0 := rfl
    have e1 : cD 0 = 1 := rfl
    rw [e0, e1]
    clear e0 e1
    have x00 := X0.c0
    have x01 := X0.c1
    have x10 := X1.c0
    have x11 := X1.c1
    have t0 := X2.c0
    have t1 := X2.c1
    have tf := X2.f
    have XD := X2
    have BD : Below w.heap.size w V := BV
    have YD := (XD.s0 (.int .i64 0)).s1 (.int .i64 1)
    have BE := (BD.setCell (p := ⟨w.heap.size + 1 + 1, 0, none⟩) (by simp; omega) (.int .i64 0)).setCell (p := ⟨w.heap.size + 1 + 1, 1, none⟩) (by simp; omega) (.int .i64 1)
    have y0 := YD.c0
    have y1 := YD.c1
    clear XD YD X0 X1 X2 BD
    go_enter Try.func82, Try.ntmps82
    go_upto_region 1 with fail
    rw [HVE.out]
    clear HVE
    go_wp2

    exact bodyPost_ret (v := .agg #[.int .i64 0, .int .i64 1]) (by simp [results, Try.results82, go_sem, y0, y1]) rfl ⟨rfl, BE⟩
set_option maxRecDepth 100000 in
set_option maxHeartbeats 8000000 in
theorem pwithin (n d : Int) (hm : MB n d) (la ha fa wa : Value) (L H F W : Nat → Int) (w : World) (RL : R3 w la L) (RH : R3 w ha H) (RF : R3 w fa F) (RW : R3 w wa W) (iL : InC 3 L) (iH : InC 3 H) (iF : InC 3 F) (iW : InC 3 W) : Calls Try.prog 84 #[.agg #[fa, wa], .agg #[la, ha], .agg #[.int .i64 n, .int .i64 d]] w fun e w' => e = .returned (.bool (wiA L H F W n d 3)) ∧ Below w.heap.size w w' := by
  obtain ⟨Lg, Lo, Lc, rfl, Lh⟩ := RL
  obtain ⟨Hg, Ho, Hc, rfl, Hh⟩ := RH
  obtain ⟨Fg, Fo, Fc, rfl, Fh⟩ := RF
  obtain ⟨Wg, Wo, Wc, rfl, Wh⟩ := RW
  obtain ⟨V, hV⟩ : ∃ V, (((w.alloc (.cells #[.slice (some ⟨Fg, Fo, none⟩) 3 Fc, .slice (some ⟨Wg, Wo, none⟩) 3 Wc] 35)).alloc (.cells #[.slice (some ⟨Lg, Lo, none⟩) 3 Lc, .slice (some ⟨Hg, Ho, none⟩) 3 Hc] 27)).alloc (.cells #[.int .i64 n, .int .i64 d] 85)) = V := ⟨_, rfl⟩
  have BV : Below w.heap.size w V := by rw [← hV]; exact ((alloc_b).trans ((alloc_b).mono (by simp))).trans ((alloc_b).mono (by simp; omega))
  have X0 : C2 V (w.heap.size) (.slice (some ⟨Fg, Fo, none⟩) 3 Fc) (.slice (some ⟨Wg, Wo, none⟩) 3 Wc) := by
    have h := ((C2.new w 35 (.slice (some ⟨Fg, Fo, none⟩) 3 Fc) (.slice (some ⟨Wg, Wo, none⟩) 3 Wc)).next (alloc_b (o := .cells #[.slice (some ⟨Lg, Lo, none⟩) 3 Lc, .slice (some ⟨Hg, Ho, none⟩) 3 Hc] 27))).next (alloc_b (o := .cells #[.int .i64 n, .int .i64 d] 85))
    rw [hV] at h
    exact h
  have X1 : C2 V (w.heap.size + 1) (.slice (some ⟨Lg, Lo, none⟩) 3 Lc) (.slice (some ⟨Hg, Ho, none⟩) 3 Hc) := by
    have h := (C2.new (w.alloc (.cells #[.slice (some ⟨Fg, Fo, none⟩) 3 Fc, .slice (some ⟨Wg, Wo, none⟩) 3 Wc] 35)) 27 (.slice (some ⟨Lg, Lo, none⟩) 3 Lc) (.slice (some ⟨Hg, Ho, none⟩) 3 Hc)).next (alloc_b (o := .cells #[.int .i64 n, .int .i64 d] 85))
    rw [hV] at h
    simpa only [World.size_alloc] using h
  have X2 : C2 V (w.heap.size + 1 + 1) (.int .i64 n) (.int .i64 d) := by
    have h := C2.new ((w.alloc (.cells #[.slice (some ⟨Fg, Fo, none⟩) 3 Fc, .slice (some ⟨Wg, Wo, none⟩) 3 Wc] 35)).alloc (.cells #[.slice (some ⟨Lg, Lo, none⟩) 3 Lc, .slice (some ⟨Hg, Ho, none⟩) 3 Hc] 27)) 85 (.int .i64 n) (.int .i64 d)
    rw [hV] at h
    simpa only [World.size_alloc] using h
  have HVE := Hid.mk hV
  clear hV
  have HR : Hid (∀ k, k < 3 → V.cell? ⟨Lg, Lo + k, none⟩ = some (.int .i64 (L k)) ∧ V.cell? ⟨Hg, Ho + k, none⟩ = some (.int .i64 (H k)) ∧ V.cell? ⟨Fg, Fo + k, none⟩ = some (.int .i64 (F k)) ∧ V.cell? ⟨Wg, Wo + k, none⟩ = some (.int .i64 (W k))) := fun k hk => ⟨cell_nx (Lh k hk) BV, cell_nx (Hh k hk) BV, cell_nx (Fh k hk) BV, cell_nx (Wh k hk) BV⟩
  have HI : Hid (∀ k, k < 3 → (-1000 ≤ L k ∧ L k ≤ 1000) ∧ (-1000 ≤ H k ∧ H k ≤ 1000) ∧ (-1000 ≤ F k ∧ F k ≤ 1000) ∧ (-1000 ≤ W k ∧ W k ≤ 1000)) := fun k hk => ⟨iL k hk, iH k hk, iF k hk, iW k hk⟩
  obtain ⟨B, hB⟩ : ∃ B, wiA L H F W n d 3 = B := ⟨_, rfl⟩
  have HF : Hid (∀ k, k < 3 → wiI (L k) (H k) (F k) (W k) n d = false → B = false) := fun k hk h => by
    rw [← hB]
    cases hc : wiA L H F W n d 3
    · rfl
    · rw [(wiA_iff L H F W n d 3).1 hc k hk] at h; cases h
  have HT : Hid ((∀ k, k < 3 → wiI (L k) (H k) (F k) (W k) n d = true) → B = true) := fun h => by rw [← hB]; exact (wiA_iff L H F W n d 3).2 h
  rw [hB]
  have HBV := Hid.mk BV
  have HM := Hid.mk hm
  clear hB Lh Hh Fh Wh iL iH iF iW BV hm
  have HX : Hid (∀ v, Below V.heap.size V v → C2 v w.heap.size (.slice (some ⟨Fg, Fo, none⟩) 3 Fc) (.slice (some ⟨Wg, Wo, none⟩) 3 Wc) ∧ C2 v (w.heap.size + 1) (.slice (some ⟨Lg, Lo, none⟩) 3 Lc) (.slice (some ⟨Hg, Ho, none⟩) 3 Hc) ∧ C2 v (w.heap.size + 1 + 1) (.int .i64 n) (.int .i64 d)) := fun v b => ⟨X0.next b, X1.next b, X2.next b⟩
  clear X0 X1 X2
  go_enter Try.func84, Try.ntmps84
  go_upto_region 1 with fail
  rw [HVE.out]
  clear HVE
  go_wp2
  go_loopw [9] (fun i wx => ∃ k : Nat, k ≤ 3 ∧ i = .int .i64 k ∧ Hid (∀ j, j < k → wiI (L j) (H j) (F j) (W j) n d = true) ∧ Hid (Below V.heap.size V wx)) (fun i _ => 3 - (intOf i).toNat)
  case atStart => exact ⟨0, Nat.zero_le _, rfl, fun j hj => absurd hj (Nat.not_lt_zero _), Below.refl _ _⟩
  case round =>
    obtain ⟨k, hk, rfl, HK, HB⟩ := hrel
    by_cases hkn : k < 3
    case neg =>
      obtain rfl : k = 3 := by omega
      obtain rfl := HT.out HK.out
      have i1 : ¬ ((3 : Nat) : Int) < 3 := by omega
      go_wp2
      go_ret
      exact ⟨rfl, HBV.out.trans (HB.out.mono HBV.out.size)⟩
    have i1 : (k : Int) < 3 := by omega
    have i0 : (0 : Int) ≤ (k : Int) := by omega
    obtain ⟨pL, pH, pF, pW⟩ := HR.out k hkn
    have pL := cell_nx pL HB.out
    have pH := cell_nx pH HB.out
    have pF := cell_nx pF HB.out
    have pW := cell_nx pW HB.out
    obtain ⟨X0, X1, X2⟩ := HX.out _ HB.out
    have x00 := X0.c0
    have x01 := X0.c1
    have x10 := X1.c0
    have x11 := X1.c1
    have x20 := X2.c0
    have x21 := X2.c1
    clear X0 X1 X2
    obtain ⟨bL, bH, bF, bW⟩ := HI.out k hkn
    have HFk := Hid.mk (HF.out k hkn)
    have HKn : Hid (wiI (L k) (H k) (F k) (W k) n d = true → ∀ j, j < k + 1 → wiI (L j) (H j) (F j) (W j) n d = true) := fun h j hj => if e : j = k then e ▸ h else HK.out j (by omega)
    have HW : Hid (wiI (L k) (H k) (F k) (W k) n d = (decide (L k * d ≤ F k * d + W k * n) && decide (F k * d + W k * n ≤ H k * d))) := rfl
    generalize wiI (L k) (H k) (F k) (W k) n d = wb at HFk HKn HW
    generalize L k = lk at pL bL HW
    generalize H k = hk1 at pH bH HW
    generalize F k = fk at pF bF HW
    generalize W k = wk at pW bW HW
    have mb := HM.out
    have c1 : -1000000 ≤ lk * d ∧ lk * d ≤ 1000000 := by have := mul1k bL mb.2; exact this
    have c2 : -1000000 ≤ hk1 * d ∧ hk1 * d ≤ 1000000 := by have := mul1k bH mb.2; exact this
    have c3 : -1000000 ≤ fk * d ∧ fk * d ≤ 1000000 := by have := mul1k bF mb.2; exact this
    have c4 : -2000000 ≤ wk * n ∧ wk * n ≤ 2000000 := by have := mul2k bW mb.1; exact this
    have m1 : IntKind.i64.wrap (lk * d) = lk * d := (IntKind.wrap_i64 _).trans (by omega)
    have m2 : IntKind.i64.wrap (hk1 * d) = hk1 * d := (IntKind.wrap_i64 _).trans (by omega)
    have m3 : IntKind.i64.wrap (fk * d) = fk * d := (IntKind.wrap_i64 _).trans (by omega)
    have m4 : IntKind.i64.wrap (wk * n) = wk * n := (IntKind.wrap_i64 _).trans (by omega)
    have m5 : IntKind.i64.wrap (fk * d + wk * n) = fk * d + wk * n := (IntKind.wrap_i64 _).trans (by omega)
    clear mb c1 c2 c3 c4 bL bH bF bW HK
    go_wp2
    go_quiet (fail)
    go_wp2
    clear m3 m4 m5
    generalize fk * d + wk * n = pl at HW ⊢
    obtain ⟨ld, hld⟩ : ∃ x, lk * d = x := ⟨_, rfl⟩
    obtain ⟨hd, hhd⟩ : ∃ x, hk1 * d = x := ⟨_, rfl⟩
    replace m1 := m1.trans hld
    replace m2 := m2.trans hhd
    rw [hld, hhd] at HW
    clear hld hhd
    have BX := below_drew (below_drewN HB.out nq)
    have pL : (wr.drewN nq).drew.cell? ⟨Lg, Lo + k, none⟩ = some (.int .i64 lk) := pL
    have pH : (wr.drewN nq).drew.cell? ⟨Hg, Ho + k, none⟩ = some (.int .i64 hk1) := pH
    have x10 : (wr.drewN nq).drew.cell? ⟨w.heap.size + 1, 0, none⟩ = some (.slice (some ⟨Lg, Lo, none⟩) 3 Lc) := x10
    have x11 : (wr.drewN nq).drew.cell? ⟨w.heap.size + 1, 1, none⟩ = some (.slice (some ⟨Hg, Ho, none⟩) 3 Hc) := x11
    have x21 : (wr.drewN nq).drew.cell? ⟨w.heap.size + 1 + 1, 1, none⟩ = some (.int .i64 d) := x21
    clear pF pW x00 x01 x20 HB
    generalize hWW : (wr.drewN nq).drew = WX at pL pH x10 x11 x21 BX
    have BX := Hid.mk BX
    refine wp_region_held_drew (S := fun v => Below WX.heap.size WX v) (by kernel_rfl) (by rw [hWW]; exact Below.refl _ _) (fun hH => ?_)
    rw [hWW] at hH ⊢
    clear hWW
    by_cases g1 : pl < ld
    · have q1 : decide (pl < ld) = true := decide_eq_true g1
      have hw : wb = false := by rw [HW.out, decide_eq_false (show ¬ ld ≤ pl by omega), Bool.false_and]
      obtain rfl := HFk.out hw
      clear HW HFk HKn hw
      refine wpAnyH_take (i := 0) (oi := { dst := some 29, op := Op.move (Operand.tmp 8), type := 3, pos := "l18_rays.go:204", after := #[], guard := none }) (v := .int .i64 pl) rfl (by kernel_rfl) (by kernel_rfl) (by kernel_rfl) (fun _ _ _ h => h) (Or.inl ⟨by rfl, fun w0 hSw => by (go_simp)⟩) hH ?_
      simp only [Act.put, List.setIfInBounds_toArray, List.set_cons_zero, List.set_cons_succ]
      refine wpAnyH_take (i := 1) (oi := { dst := some 30, op := Op.fieldAddr 27 (Operand.tmp 4) 0, type := 0, pos := "l18_rays.go:204", after := #[], guard := none }) (v := .pointer (some ⟨w.heap.size + 1, 0, none⟩)) rfl (by kernel_rfl) (by kernel_rfl) (by kernel_rfl) (fun _ _ _ h => h) (Or.inl ⟨by rfl, fun w0 hSw => by (go_simp)⟩) hH ?_
      simp only [Act.put, List.setIfInBounds_toArray, List.set_cons_zero, List.set_cons_succ]
      refine wpAnyH_take (i := 2) (oi := { dst := some 31, op := Op.load 22 (Operand.tmp 30), type := 22, pos := "l18_rays.go:204", after := #[{ on := 1, ground := Ground.data }], guard := none }) (v := .slice (some ⟨Lg, Lo, none⟩) 3 Lc) rfl (by kernel_rfl) (by kernel_rfl) (by kernel_rfl) (fun _ _ _ h => h) (Or.inl ⟨by rfl, fun w0 hSw => by ((have e9 := cell_nx x10 hSw); go_simp)⟩) hH ?_
      simp only [Act.put, List.setIfInBounds_toArray, List.set_cons_zero, List.set_cons_succ]
      refine wpAnyH_take (i := 3) (oi := { dst := some 32, op := Op.move (Operand.tmp 7), type := 3, pos := "l18_rays.go:204", after := #[], guard := none }) (v := .int .i64 k) rfl (by kernel_rfl) (by kernel_rfl) (by kernel_rfl) (fun _ _ _ h => h) (Or.inl ⟨by rfl, fun w0 hSw => by (go_simp)⟩) hH ?_
      simp only [Act.put, List.setIfInBounds_toArray, List.set_cons_zero, List.set_cons_succ]
      refine wpAnyH_take (i := 4) (oi := { dst := some 33, op := Op.indexAddr 22 (Operand.tmp 31) (Operand.tmp 32), type := 0, pos := "l18_rays.go:204", after := #[{ on := 2, ground := Ground.data }, { on := 3, ground := Ground.data }], guard := none }) (v := .pointer (some ⟨Lg, Lo + k, none⟩)) rfl (by kernel_rfl) (by kernel_rfl) (by kernel_rfl) (fun _ _ _ h => h) (Or.inl ⟨by rfl, fun w0 hSw => by (go_simp)⟩) hH ?_
      simp only [Act.put, List.setIfInBounds_toArray, List.set_cons_zero, List.set_cons_succ]
      refine wpAnyH_take (i := 5) (oi := { dst := some 34, op := Op.load 3 (Operand.tmp 33), type := 3, pos := "l18_rays.go:204", after := #[{ on := 4, ground := Ground.data }], guard := none }) (v := .int .i64 lk) rfl (by kernel_rfl) (by kernel_rfl) (by kernel_rfl) (fun _ _ _ h => h) (Or.inl ⟨by rfl, fun w0 hSw => by ((have e9 := cell_nx pL hSw); go_simp)⟩) hH ?_
      simp only [Act.put, List.setIfInBounds_toArray, List.set_cons_zero, List.set_cons_succ]
      refine wpAnyH_take (i := 6) (oi := { dst := some 35, op := Op.fieldAddr 85 (Operand.tmp 5) 1, type := 0, pos := "l18_rays.go:204", after := #[], guard := none }) (v := .pointer (some ⟨w.heap.size + 1 + 1, 1, none⟩)) rfl (by kernel_rfl) (by kernel_rfl) (by kernel_rfl) (fun _ _ _ h => h) (Or.inl ⟨by rfl, fun w0 hSw => by (go_simp)⟩) hH ?_
      simp only [Act.put, List.setIfInBounds_toArray, List.set_cons_zero, List.set_cons_succ]
      refine wpAnyH_take (i := 7) (oi := { dst := some 36, op := Op.load 3 (Operand.tmp 35), type := 3, pos := "l18_rays.go:204", after := #[{ on := 6, ground := Ground.data }], guard := none }) (v := .int .i64 d) rfl (by kernel_rfl) (by kernel_rfl) (by kernel_rfl) (fun _ _ _ h => h) (Or.inl ⟨by rfl, fun w0 hSw => by ((have e9 := cell_nx x21 hSw); go_simp)⟩) hH ?_
      simp only [Act.put, List.setIfInBounds_toArray, List.set_cons_zero, List.set_cons_succ]
      refine wpAnyH_take (i := 8) (oi := { dst := some 37, op := Op.binOp BinOp.mul 3 (Operand.tmp 34) (Operand.tmp 36) 3, type := 3, pos := "l18_rays.go:204", after := #[{ on := 5, ground := Ground.data }, { on := 7, ground := Ground.data }], guard := none }) (v := .int .i64 ld) rfl (by kernel_rfl) (by kernel_rfl) (by kernel_rfl) (fun _ _ _ h => h) (Or.inl ⟨by rfl, fun w0 hSw => by (go_simp)⟩) hH ?_
      simp only [Act.put, List.setIfInBounds_toArray, List.set_cons_zero, List.set_cons_succ]
      refine wpAnyH_take (i := 9) (oi := { dst := some 38, op := Op.binOp BinOp.lss 3 (Operand.tmp 29) (Operand.tmp 37) 3, type := 4, pos := "l18_rays.go:204", after := #[{ on := 0, ground := Ground.data }, { on := 8, ground := Ground.data }], guard := none }) (v := .bool true) rfl (by kernel_rfl) (by kernel_rfl) (by kernel_rfl) (fun _ _ _ h => h) (Or.inl ⟨by rfl, fun w0 hSw => by (go_simp)⟩) hH ?_
      simp only [Act.put, List.setIfInBounds_toArray, List.set_cons_zero, List.set_cons_succ]
      refine wpAnyH_take (i := 10) (oi := { dst := some 39, op := Op.move (Operand.tmp 38), type := 4, pos := "l18_rays.go:204", after := #[{ on := 9, ground := Ground.data }], guard := none }) (v := .bool true) rfl (by kernel_rfl) (by kernel_rfl) (by kernel_rfl) (fun _ _ _ h => h) (Or.inl ⟨by rfl, fun w0 hSw => by (go_simp)⟩) hH ?_
      simp only [Act.put, List.setIfInBounds_toArray, List.set_cons_zero, List.set_cons_succ]
      refine wpAnyH_take (i := 11) (oi := { dst := some 40, op := Op.move (Operand.tmp 8), type := 3, pos := "l18_rays.go:204", after := #[{ on := 10, ground := Ground.guard }], guard := some (10, false) }) (v := undef) rfl (by kernel_rfl) (by kernel_rfl) (by kernel_rfl) (fun _ _ _ h => h) (Or.inr ⟨by rfl, rfl⟩) hH ?_
      simp only [Act.put, List.setIfInBounds_toArray, List.set_cons_zero, List.set_cons_succ]
      refine wpAnyH_take (i := 12) (oi := { dst := some 41, op := Op.fieldAddr 27 (Operand.tmp 4) 1, type := 0, pos := "l18_rays.go:204", after := #[{ on := 10, ground := Ground.guard }], guard := some (10, false) }) (v := undef) rfl (by kernel_rfl) (by kernel_rfl) (by kernel_rfl) (fun _ _ _ h => h) (Or.inr ⟨by rfl, rfl⟩) hH ?_
      simp only [Act.put, List.setIfInBounds_toArray, List.set_cons_zero, List.set_cons_succ]
      refine wpAnyH_take (i := 13) (oi := { dst := some 42, op := Op.load 22 (Operand.tmp 41), type := 22, pos := "l18_rays.go:204", after := #[{ on := 12, ground := Ground.data }, { on := 10, ground := Ground.guard }], guard := some (10, false) }) (v := undef) rfl (by kernel_rfl) (by kernel_rfl) (by kernel_rfl) (fun _ _ _ h => h) (Or.inr ⟨by rfl, rfl⟩) hH ?_
      simp only [Act.put, List.setIfInBounds_toArray, List.set_cons_zero, List.set_cons_succ]
      refine wpAnyH_take (i := 14) (oi := { dst := some 43, op := Op.move (Operand.tmp 7), type := 3, pos := "l18_rays.go:204", after := #[{ on := 10, ground := Ground.guard }], guard := some (10, false) }) (v := undef) rfl (by kernel_rfl) (by kernel_rfl) (by kernel_rfl) (fun _ _ _ h => h) (Or.inr ⟨by rfl, rfl⟩) hH ?_
      simp only [Act.put, List.setIfInBounds_toArray, List.set_cons_zero, List.set_cons_succ]
      refine wpAnyH_take (i := 15) (oi := { dst := some 44, op := Op.indexAddr 22 (Operand.tmp 42) (Operand.tmp 43), type := 0, pos := "l18_rays.go:204", after := #[{ on := 13, ground := Ground.data }, { on := 14, ground := Ground.data }, { on := 10, ground := Ground.guard }], guard := some (10, false) }) (v := undef) rfl (by kernel_rfl) (by kernel_rfl) (by kernel_rfl) (fun _ _ _ h => h) (Or.inr ⟨by rfl, rfl⟩) hH ?_
      simp only [Act.put, List.setIfInBounds_toArray, List.set_cons_zero, List.set_cons_succ]
      refine wpAnyH_take (i := 16) (oi := { dst := some 45, op := Op.load 3 (Operand.tmp 44), type := 3, pos := "l18_rays.go:204", after := #[{ on := 15, ground := Ground.data }, { on := 10, ground := Ground.guard }], guard := some (10, false) }) (v := undef) rfl (by kernel_rfl) (by kernel_rfl) (by kernel_rfl) (fun _ _ _ h => h) (Or.inr ⟨by rfl, rfl⟩) hH ?_
      simp only [Act.put, List.setIfInBounds_toArray, List.set_cons_zero, List.set_cons_succ]
      refine wpAnyH_take (i := 17) (oi := { dst := some 46, op := Op.fieldAddr 85 (Operand.tmp 5) 1, type := 0, pos := "l18_rays.go:204", after := #[{ on := 10, ground := Ground.guard }], guard := some (10, false) }) (v := undef) rfl (by kernel_rfl) (by kernel_rfl) (by kernel_rfl) (fun _ _ _ h => h) (Or.inr ⟨by rfl, rfl⟩) hH ?_
      simp only [Act.put, List.setIfInBounds_toArray, List.set_cons_zero, List.set_cons_succ]
      refine wpAnyH_take (i := 18) (oi := { dst := some 47, op := Op.load 3 (Operand.tmp 46), type := 3, pos := "l18_rays.go:204", after := #[{ on := 17, ground := Ground.data }, { on := 10, ground := Ground.guard }], guard := some (10, false) }) (v := undef) rfl (by kernel_rfl) (by kernel_rfl) (by kernel_rfl) (fun _ _ _ h => h) (Or.inr ⟨by rfl, rfl⟩) hH ?_
      simp only [Act.put, List.setIfInBounds_toArray, List.set_cons_zero, List.set_cons_succ]
      refine wpAnyH_take (i := 19) (oi := { dst := some 48, op := Op.binOp BinOp.mul 3 (Operand.tmp 45) (Operand.tmp 47) 3, type := 3, pos := "l18_rays.go:204", after := #[{ on := 16, ground := Ground.data }, { on := 18, ground := Ground.data }, { on := 10, ground := Ground.guard }], guard := some (10, false) }) (v := undef) rfl (by kernel_rfl) (by kernel_rfl) (by kernel_rfl) (fun _ _ _ h => h) (Or.inr ⟨by rfl, rfl⟩) hH ?_
      simp only [Act.put, List.setIfInBounds_toArray, List.set_cons_zero, List.set_cons_succ]
      refine wpAnyH_take (i := 20) (oi := { dst := some 49, op := Op.binOp BinOp.gtr 3 (Operand.tmp 40) (Operand.tmp 48) 3, type := 4, pos := "l18_rays.go:204", after := #[{ on := 11, ground := Ground.data }, { on := 19, ground := Ground.data }, { on := 10, ground := Ground.guard }], guard := some (10, false) }) (v := undef) rfl (by kernel_rfl) (by kernel_rfl) (by kernel_rfl) (fun _ _ _ h => h) (Or.inr ⟨by rfl, rfl⟩) hH ?_
      simp only [Act.put, List.setIfInBounds_toArray, List.set_cons_zero, List.set_cons_succ]
      refine wpAnyH_take (i := 21) (oi := { dst := some 50, op := Op.pick (Operand.tmp 39) (Operand.const (Value.bool true)) (Operand.tmp 49), type := 4, pos := "l18_rays.go:204", after := #[{ on := 10, ground := Ground.data }, { on := 20, ground := Ground.data }], guard := none }) (v := .bool true) rfl (by kernel_rfl) (by kernel_rfl) (by kernel_rfl) (fun _ _ _ h => h) (Or.inl ⟨by rfl, fun w0 hSw => by (go_simp)⟩) hH ?_
      simp only [Act.put, List.setIfInBounds_toArray, List.set_cons_zero, List.set_cons_succ]
      refine wpAnyH_done (by kernel_rfl) ?_ _
      go_wp2
      go_ret
      exact ⟨rfl, HBV.out.trans ((BX.out.trans (hH.mono BX.out.size)).mono HBV.out.size)⟩
    have q1 : decide (pl < ld) = false := decide_eq_false g1
    by_cases g2 : hd < pl
    · have q2 : decide (hd < pl) = true := decide_eq_true g2
      have hw : wb = false := by rw [HW.out, decide_eq_false (show ¬ pl ≤ hd by omega), Bool.and_false]
      obtain rfl := HFk.out hw
      clear HW HFk HKn hw
      refine wpAnyH_take (i := 0) (oi := { dst := some 29, op := Op.move (Operand.tmp 8), type := 3, pos := "l18_rays.go:204", after := #[], guard := none }) (v := .int .i64 pl) rfl (by kernel_rfl) (by kernel_rfl) (by kernel_rfl) (fun _ _ _ h => h) (Or.inl ⟨by rfl, fun w0 hSw => by (go_simp)⟩) hH ?_
      simp only [Act.put, List.setIfInBounds_toArray, List.set_cons_zero, List.set_cons_succ]
      refine wpAnyH_take (i := 1) (oi := { dst := some 30, op := Op.fieldAddr 27 (Operand.tmp 4) 0, type := 0, pos := "l18_rays.go:204", after := #[], guard := none }) (v := .pointer (some ⟨w.heap.size + 1, 0, none⟩)) rfl (by kernel_rfl) (by kernel_rfl) (by kernel_rfl) (fun _ _ _ h => h) (Or.inl ⟨by rfl, fun w0 hSw => by (go_simp)⟩) hH ?_
      simp only [Act.put, List.setIfInBounds_toArray, List.set_cons_zero, List.set_cons_succ]
      refine wpAnyH_take (i := 2) (oi := { dst := some 31, op := Op.load 22 (Operand.tmp 30), type := 22, pos := "l18_rays.go:204", after := #[{ on := 1, ground := Ground.data }], guard := none }) (v := .slice (some ⟨Lg, Lo, none⟩) 3 Lc) rfl (by kernel_rfl) (by kernel_rfl) (by kernel_rfl) (fun _ _ _ h => h) (Or.inl ⟨by rfl, fun w0 hSw => by ((have e9 := cell_nx x10 hSw); go_simp)⟩) hH ?_
      simp only [Act.put, List.setIfInBounds_toArray, List.set_cons_zero, List.set_cons_succ]
      refine wpAnyH_take (i := 3) (oi := { dst := some 32, op := Op.move (Operand.tmp 7), type := 3, pos := "l18_rays.go:204", after := #[], guard := none }) (v := .int .i64 k) rfl (by kernel_rfl) (by kernel_rfl) (by kernel_rfl) (fun _ _ _ h => h) (Or.inl ⟨by rfl, fun w0 hSw => by (go_simp)⟩) hH ?_
      simp only [Act.put, List.setIfInBounds_toArray, List.set_cons_zero, List.set_cons_succ]
      refine wpAnyH_take (i := 4) (oi := { dst := some 33, op := Op.indexAddr 22 (Operand.tmp 31) (Operand.tmp 32), type := 0, pos := "l18_rays.go:204", after := #[{ on := 2, ground := Ground.data }, { on := 3, ground := Ground.data }], guard := none }) (v := .pointer (some ⟨Lg, Lo + k, none⟩)) rfl (by kernel_rfl) (by kernel_rfl) (by kernel_rfl) (fun _ _ _ h => h) (Or.inl ⟨by rfl, fun w0 hSw => by (go_simp)⟩) hH ?_
      simp only [Act.put, List.setIfInBounds_toArray, List.set_cons_zero, List.set_cons_succ]
      refine wpAnyH_take (i := 5) (oi := { dst := some 34, op := Op.load 3 (Operand.tmp 33), type := 3, pos := "l18_rays.go:204", after := #[{ on := 4, ground := Ground.data }], guard := none }) (v := .int .i64 lk) rfl (by kernel_rfl) (by kernel_rfl) (by kernel_rfl) (fun _ _ _ h => h) (Or.inl ⟨by rfl, fun w0 hSw => by ((have e9 := cell_nx pL hSw); go_simp)⟩) hH ?_
      simp only [Act.put, List.setIfInBounds_toArray, List.set_cons_zero, List.set_cons_succ]
      refine wpAnyH_take (i := 6) (oi := { dst := some 35, op := Op.fieldAddr 85 (Operand.tmp 5) 1, type := 0, pos := "l18_rays.go:204", after := #[], guard := none }) (v := .pointer (some ⟨w.heap.size + 1 + 1, 1, none⟩)) rfl (by kernel_rfl) (by kernel_rfl) (by kernel_rfl) (fun _ _ _ h => h) (Or.inl ⟨by rfl, fun w0 hSw => by (go_simp)⟩) hH ?_
      simp only [Act.put, List.setIfInBounds_toArray, List.set_cons_zero, List.set_cons_succ]
      refine wpAnyH_take (i := 7) (oi := { dst := some 36, op := Op.load 3 (Operand.tmp 35), type := 3, pos := "l18_rays.go:204", after := #[{ on := 6, ground := Ground.data }], guard := none }) (v := .int .i64 d) rfl (by kernel_rfl) (by kernel_rfl) (by kernel_rfl) (fun _ _ _ h => h) (Or.inl ⟨by rfl, fun w0 hSw => by ((have e9 := cell_nx x21 hSw); go_simp)⟩) hH ?_
      simp only [Act.put, List.setIfInBounds_toArray, List.set_cons_zero, List.set_cons_succ]
      refine wpAnyH_take (i := 8) (oi := { dst := some 37, op := Op.binOp BinOp.mul 3 (Operand.tmp 34) (Operand.tmp 36) 3, type := 3, pos := "l18_rays.go:204", after := #[{ on := 5, ground := Ground.data }, { on := 7, ground := Ground.data }], guard := none }) (v := .int .i64 ld) rfl (by kernel_rfl) (by kernel_rfl) (by kernel_rfl) (fun _ _ _ h => h) (Or.inl ⟨by rfl, fun w0 hSw => by (go_simp)⟩) hH ?_
      simp only [Act.put, List.setIfInBounds_toArray, List.set_cons_zero, List.set_cons_succ]
      refine wpAnyH_take (i := 9) (oi := { dst := some 38, op := Op.binOp BinOp.lss 3 (Operand.tmp 29) (Operand.tmp 37) 3, type := 4, pos := "l18_rays.go:204", after := #[{ on := 0, ground := Ground.data }, { on := 8, ground := Ground.data }], guard := none }) (v := .bool false) rfl (by kernel_rfl) (by kernel_rfl) (by kernel_rfl) (fun _ _ _ h => h) (Or.inl ⟨by rfl, fun w0 hSw => by (go_simp)⟩) hH ?_
      simp only [Act.put, List.setIfInBounds_toArray, List.set_cons_zero, List.set_cons_succ]
      refine wpAnyH_take (i := 10) (oi := { dst := some 39, op := Op.move (Operand.tmp 38), type := 4, pos := "l18_rays.go:204", after := #[{ on := 9, ground := Ground.data }], guard := none }) (v := .bool false) rfl (by kernel_rfl) (by kernel_rfl) (by kernel_rfl) (fun _ _ _ h => h) (Or.inl ⟨by rfl, fun w0 hSw => by (go_simp)⟩) hH ?_
      simp only [Act.put, List.setIfInBounds_toArray, List.set_cons_zero, List.set_cons_succ]
      refine wpAnyH_take (i := 11) (oi := { dst := some 40, op := Op.move (Operand.tmp 8), type := 3, pos := "l18_rays.go:204", after := #[{ on := 10, ground := Ground.guard }], guard := some (10, false) }) (v := .int .i64 pl) rfl (by kernel_rfl) (by kernel_rfl) (by kernel_rfl) (fun _ _ _ h => h) (Or.inl ⟨by rfl, fun w0 hSw => by (go_simp)⟩) hH ?_
      simp only [Act.put, List.setIfInBounds_toArray, List.set_cons_zero, List.set_cons_succ]
      refine wpAnyH_take (i := 12) (oi := { dst := some 41, op := Op.fieldAddr 27 (Operand.tmp 4) 1, type := 0, pos := "l18_rays.go:204", after := #[{ on := 10, ground := Ground.guard }], guard := some (10, false) }) (v := .pointer (some ⟨w.heap.size + 1, 1, none⟩)) rfl (by kernel_rfl) (by kernel_rfl) (by kernel_rfl) (fun _ _ _ h => h) (Or.inl ⟨by rfl, fun w0 hSw => by (go_simp)⟩) hH ?_
      simp only [Act.put, List.setIfInBounds_toArray, List.set_cons_zero, List.set_cons_succ]
      refine wpAnyH_take (i := 13) (oi := { dst := some 42, op := Op.load 22 (Operand.tmp 41), type := 22, pos := "l18_rays.go:204", after := #[{ on := 12, ground := Ground.data }, { on := 10, ground := Ground.guard }], guard := some (10, false) }) (v := .slice (some ⟨Hg, Ho, none⟩) 3 Hc) rfl (by kernel_rfl) (by kernel_rfl) (by kernel_rfl) (fun _ _ _ h => h) (Or.inl ⟨by rfl, fun w0 hSw => by ((have e9 := cell_nx x11 hSw); go_simp)⟩) hH ?_
      simp only [Act.put, List.setIfInBounds_toArray, List.set_cons_zero, List.set_cons_succ]
      refine wpAnyH_take (i := 14) (oi := { dst := some 43, op := Op.move (Operand.tmp 7), type := 3, pos := "l18_rays.go:204", after := #[{ on := 10, ground := Ground.guard }], guard := some (10, false) }) (v := .int .i64 k) rfl (by kernel_rfl) (by kernel_rfl) (by kernel_rfl) (fun _ _ _ h => h) (Or.inl ⟨by rfl, fun w0 hSw => by (go_simp)⟩) hH ?_
      simp only [Act.put, List.setIfInBounds_toArray, List.set_cons_zero, List.set_cons_succ]
      refine wpAnyH_take (i := 15) (oi := { dst := some 44, op := Op.indexAddr 22 (Operand.tmp 42) (Operand.tmp 43), type := 0, pos := "l18_rays.go:204", after := #[{ on := 13, ground := Ground.data }, { on := 14, ground := Ground.data }, { on := 10, ground := Ground.guard }], guard := some (10, false) }) (v := .pointer (some ⟨Hg, Ho + k, none⟩)) rfl (by kernel_rfl) (by kernel_rfl) (by kernel_rfl) (fun _ _ _ h => h) (Or.inl ⟨by rfl, fun w0 hSw => by (go_simp)⟩) hH ?_
      simp only [Act.put, List.setIfInBounds_toArray, List.set_cons_zero, List.set_cons_succ]
      refine wpAnyH_take (i := 16) (oi := { dst := some 45, op := Op.load 3 (Operand.tmp 44), type := 3, pos := "l18_rays.go:204", after := #[{ on := 15, ground := Ground.data }, { on := 10, ground := Ground.guard }], guard := some (10, false) }) (v := .int .i64 hk1) rfl (by kernel_rfl) (by kernel_rfl) (by kernel_rfl) (fun _ _ _ h => h) (Or.inl ⟨by rfl, fun w0 hSw => by ((have e9 := cell_nx pH hSw); go_simp)⟩) hH ?_
      simp only [Act.put, List.setIfInBounds_toArray, List.set_cons_zero, List.set_cons_succ]
      refine wpAnyH_take (i := 17) (oi := { dst := some 46, op := Op.fieldAddr 85 (Operand.tmp 5) 1, type := 0, pos := "l18_rays.go:204", after := #[{ on := 10, ground := Ground.guard }], guard := some (10, false) }) (v := .pointer (some ⟨w.heap.size + 1 + 1, 1, none⟩)) rfl (by kernel_rfl) (by kernel_rfl) (by kernel_rfl) (fun _ _ _ h => h) (Or.inl ⟨by rfl, fun w0 hSw => by (go_simp)⟩) hH ?_
      simp only [Act.put, List.setIfInBounds_toArray, List.set_cons_zero, List.set_cons_succ]
      refine wpAnyH_take (i := 18) (oi := { dst := some 47, op := Op.load 3 (Operand.tmp 46), type := 3, pos := "l18_rays.go:204", after := #[{ on := 17, ground := Ground.data }, { on := 10, ground := Ground.guard }], guard := some (10, false) }) (v := .int .i64 d) rfl (by kernel_rfl) (by kernel_rfl) (by kernel_rfl) (fun _ _ _ h => h) (Or.inl ⟨by rfl, fun w0 hSw => by ((have e9 := cell_nx x21 hSw); go_simp)⟩) hH ?_
      simp only [Act.put, List.setIfInBounds_toArray, List.set_cons_zero, List.set_cons_succ]
      refine wpAnyH_take (i := 19) (oi := { dst := some 48, op := Op.binOp BinOp.mul 3 (Operand.tmp 45) (Operand.tmp 47) 3, type := 3, pos := "l18_rays.go:204", after := #[{ on := 16, ground := Ground.data }, { on := 18, ground := Ground.data }, { on := 10, ground := Ground.guard }], guard := some (10, false) }) (v := .int .i64 hd) rfl (by kernel_rfl) (by kernel_rfl) (by kernel_rfl) (fun _ _ _ h => h) (Or.inl ⟨by rfl, fun w0 hSw => by (go_simp)⟩) hH ?_
      simp only [Act.put, List.setIfInBounds_toArray, List.set_cons_zero, List.set_cons_succ]
      refine wpAnyH_take (i := 20) (oi := { dst := some 49, op := Op.binOp BinOp.gtr 3 (Operand.tmp 40) (Operand.tmp 48) 3, type := 4, pos := "l18_rays.go:204", after := #[{ on := 11, ground := Ground.data }, { on := 19, ground := Ground.data }, { on := 10, ground := Ground.guard }], guard := some (10, false) }) (v := .bool true) rfl (by kernel_rfl) (by kernel_rfl) (by kernel_rfl) (fun _ _ _ h => h) (Or.inl ⟨by rfl, fun w0 hSw => by (go_simp)⟩) hH ?_
      simp only [Act.put, List.setIfInBounds_toArray, List.set_cons_zero, List.set_cons_succ]
      refine wpAnyH_take (i := 21) (oi := { dst := some 50, op := Op.pick (Operand.tmp 39) (Operand.const (Value.bool true)) (Operand.tmp 49), type := 4, pos := "l18_rays.go:204", after := #[{ on := 10, ground := Ground.data }, { on := 20, ground := Ground.data }], guard := none }) (v := .bool true) rfl (by kernel_rfl) (by kernel_rfl) (by kernel_rfl) (fun _ _ _ h => h) (Or.inl ⟨by rfl, fun w0 hSw => by (go_simp)⟩) hH ?_
      simp only [Act.put, List.setIfInBounds_toArray, List.set_cons_zero, List.set_cons_succ]
      refine wpAnyH_done (by kernel_rfl) ?_ _
      go_wp2
      go_ret
      exact ⟨rfl, HBV.out.trans ((BX.out.trans (hH.mono BX.out.size)).mono HBV.out.size)⟩
    have q2 : decide (hd < pl) = false := decide_eq_false g2
    have HN := Hid.mk (HKn.out (by rw [HW.out, decide_eq_true (show ld ≤ pl by omega), decide_eq_true (show pl ≤ hd by omega)]; rfl))
    clear HW HFk HKn
    refine wpAnyH_take (i := 0) (oi := { dst := some 29, op := Op.move (Operand.tmp 8), type := 3, pos := "l18_rays.go:204", after := #[], guard := none }) (v := .int .i64 pl) rfl (by kernel_rfl) (by kernel_rfl) (by kernel_rfl) (fun _ _ _ h => h) (Or.inl ⟨by rfl, fun w0 hSw => by (go_simp)⟩) hH ?_
    simp only [Act.put, List.setIfInBounds_toArray, List.set_cons_zero, List.set_cons_succ]
    refine wpAnyH_take (i := 1) (oi := { dst := some 30, op := Op.fieldAddr 27 (Operand.tmp 4) 0, type := 0, pos := "l18_rays.go:204", after := #[], guard := none }) (v := .pointer (some ⟨w.heap.size + 1, 0, none⟩)) rfl (by kernel_rfl) (by kernel_rfl) (by kernel_rfl) (fun _ _ _ h => h) (Or.inl ⟨by rfl, fun w0 hSw => by (go_simp)⟩) hH ?_
    simp only [Act.put, List.setIfInBounds_toArray, List.set_cons_zero, List.set_cons_succ]
    refine wpAnyH_take (i := 2) (oi := { dst := some 31, op := Op.load 22 (Operand.tmp 30), type := 22, pos := "l18_rays.go:204", after := #[{ on := 1, ground := Ground.data }], guard := none }) (v := .slice (some ⟨Lg, Lo, none⟩) 3 Lc) rfl (by kernel_rfl) (by kernel_rfl) (by kernel_rfl) (fun _ _ _ h => h) (Or.inl ⟨by rfl, fun w0 hSw => by ((have e9 := cell_nx x10 hSw); go_simp)⟩) hH ?_
    simp only [Act.put, List.setIfInBounds_toArray, List.set_cons_zero, List.set_cons_succ]
    refine wpAnyH_take (i := 3) (oi := { dst := some 32, op := Op.move (Operand.tmp 7), type := 3, pos := "l18_rays.go:204", after := #[], guard := none }) (v := .int .i64 k) rfl (by kernel_rfl) (by kernel_rfl) (by kernel_rfl) (fun _ _ _ h => h) (Or.inl ⟨by rfl, fun w0 hSw => by (go_simp)⟩) hH ?_
    simp only [Act.put, List.setIfInBounds_toArray, List.set_cons_zero, List.set_cons_succ]
    refine wpAnyH_take (i := 4) (oi := { dst := some 33, op := Op.indexAddr 22 (Operand.tmp 31) (Operand.tmp 32), type := 0, pos := "l18_rays.go:204", after := #[{ on := 2, ground := Ground.data }, { on := 3, ground := Ground.data }], guard := none }) (v := .pointer (some ⟨Lg, Lo + k, none⟩)) rfl (by kernel_rfl) (by kernel_rfl) (by kernel_rfl) (fun _ _ _ h => h) (Or.inl ⟨by rfl, fun w0 hSw => by (go_simp)⟩) hH ?_
    simp only [Act.put, List.setIfInBounds_toArray, List.set_cons_zero, List.set_cons_succ]
    refine wpAnyH_take (i := 5) (oi := { dst := some 34, op := Op.load 3 (Operand.tmp 33), type := 3, pos := "l18_rays.go:204", after := #[{ on := 4, ground := Ground.data }], guard := none }) (v := .int .i64 lk) rfl (by kernel_rfl) (by kernel_rfl) (by kernel_rfl) (fun _ _ _ h => h) (Or.inl ⟨by rfl, fun w0 hSw => by ((have e9 := cell_nx pL hSw); go_simp)⟩) hH ?_
    simp only [Act.put, List.setIfInBounds_toArray, List.set_cons_zero, List.set_cons_succ]
    refine wpAnyH_take (i := 6) (oi := { dst := some 35, op := Op.fieldAddr 85 (Operand.tmp 5) 1, type := 0, pos := "l18_rays.go:204", after := #[], guard := none }) (v := .pointer (some ⟨w.heap.size + 1 + 1, 1, none⟩)) rfl (by kernel_rfl) (by kernel_rfl) (by kernel_rfl) (fun _ _ _ h => h) (Or.inl ⟨by rfl, fun w0 hSw => by (go_simp)⟩) hH ?_
    simp only [Act.put, List.setIfInBounds_toArray, List.set_cons_zero, List.set_cons_succ]
    refine wpAnyH_take (i := 7) (oi := { dst := some 36, op := Op.load 3 (Operand.tmp 35), type := 3, pos := "l18_rays.go:204", after := #[{ on := 6, ground := Ground.data }], guard := none }) (v := .int .i64 d) rfl (by kernel_rfl) (by kernel_rfl) (by kernel_rfl) (fun _ _ _ h => h) (Or.inl ⟨by rfl, fun w0 hSw => by ((have e9 := cell_nx x21 hSw); go_simp)⟩) hH ?_
    simp only [Act.put, List.setIfInBounds_toArray, List.set_cons_zero, List.set_cons_succ]
    refine wpAnyH_take (i := 8) (oi := { dst := some 37, op := Op.binOp BinOp.mul 3 (Operand.tmp 34) (Operand.tmp 36) 3, type := 3, pos := "l18_rays.go:204", after := #[{ on := 5, ground := Ground.data }, { on := 7, ground := Ground.data }], guard := none }) (v := .int .i64 ld) rfl (by kernel_rfl) (by kernel_rfl) (by kernel_rfl) (fun _ _ _ h => h) (Or.inl ⟨by rfl, fun w0 hSw => by (go_simp)⟩) hH ?_
    simp only [Act.put, List.setIfInBounds_toArray, List.set_cons_zero, List.set_cons_succ]
    refine wpAnyH_take (i := 9) (oi := { dst := some 38, op := Op.binOp BinOp.lss 3 (Operand.tmp 29) (Operand.tmp 37) 3, type := 4, pos := "l18_rays.go:204", after := #[{ on := 0, ground := Ground.data }, { on := 8, ground := Ground.data }], guard := none }) (v := .bool false) rfl (by kernel_rfl) (by kernel_rfl) (by kernel_rfl) (fun _ _ _ h => h) (Or.inl ⟨by rfl, fun w0 hSw => by (go_simp)⟩) hH ?_
    simp only [Act.put, List.setIfInBounds_toArray, List.set_cons_zero, List.set_cons_succ]
    refine wpAnyH_take (i := 10) (oi := { dst := some 39, op := Op.move (Operand.tmp 38), type := 4, pos := "l18_rays.go:204", after := #[{ on := 9, ground := Ground.data }], guard := none }) (v := .bool false) rfl (by kernel_rfl) (by kernel_rfl) (by kernel_rfl) (fun _ _ _ h => h) (Or.inl ⟨by rfl, fun w0 hSw => by (go_simp)⟩) hH ?_
    simp only [Act.put, List.setIfInBounds_toArray, List.set_cons_zero, List.set_cons_succ]
    refine wpAnyH_take (i := 11) (oi := { dst := some 40, op := Op.move (Operand.tmp 8), type := 3, pos := "l18_rays.go:204", after := #[{ on := 10, ground := Ground.guard }], guard := some (10, false) }) (v := .int .i64 pl) rfl (by kernel_rfl) (by kernel_rfl) (by kernel_rfl) (fun _ _ _ h => h) (Or.inl ⟨by rfl, fun w0 hSw => by (go_simp)⟩) hH ?_
    simp only [Act.put, List.setIfInBounds_toArray, List.set_cons_zero, List.set_cons_succ]
    refine wpAnyH_take (i := 12) (oi := { dst := some 41, op := Op.fieldAddr 27 (Operand.tmp 4) 1, type := 0, pos := "l18_rays.go:204", after := #[{ on := 10, ground := Ground.guard }], guard := some (10, false) }) (v := .pointer (some ⟨w.heap.size + 1, 1, none⟩)) rfl (by kernel_rfl) (by kernel_rfl) (by kernel_rfl) (fun _ _ _ h => h) (Or.inl ⟨by rfl, fun w0 hSw => by (go_simp)⟩) hH ?_
    simp only [Act.put, List.setIfInBounds_toArray, List.set_cons_zero, List.set_cons_succ]
    refine wpAnyH_take (i := 13) (oi := { dst := some 42, op := Op.load 22 (Operand.tmp 41), type := 22, pos := "l18_rays.go:204", after := #[{ on := 12, ground := Ground.data }, { on := 10, ground := Ground.guard }], guard := some (10, false) }) (v := .slice (some ⟨Hg, Ho, none⟩) 3 Hc) rfl (by kernel_rfl) (by kernel_rfl) (by kernel_rfl) (fun _ _ _ h => h) (Or.inl ⟨by rfl, fun w0 hSw => by ((have e9 := cell_nx x11 hSw); go_simp)⟩) hH ?_
    simp only [Act.put, List.setIfInBounds_toArray, List.set_cons_zero, List.set_cons_succ]
    refine wpAnyH_take (i := 14) (oi := { dst := some 43, op := Op.move (Operand.tmp 7), type := 3, pos := "l18_rays.go:204", after := #[{ on := 10, ground := Ground.guard }], guard := some (10, false) }) (v := .int .i64 k) rfl (by kernel_rfl) (by kernel_rfl) (by kernel_rfl) (fun _ _ _ h => h) (Or.inl ⟨by rfl, fun w0 hSw => by (go_simp)⟩) hH ?_
    simp only [Act.put, List.setIfInBounds_toArray, List.set_cons_zero, List.set_cons_succ]
    refine wpAnyH_take (i := 15) (oi := { dst := some 44, op := Op.indexAddr 22 (Operand.tmp 42) (Operand.tmp 43), type := 0, pos := "l18_rays.go:204", after := #[{ on := 13, ground := Ground.data }, { on := 14, ground := Ground.data }, { on := 10, ground := Ground.guard }], guard := some (10, false) }) (v := .pointer (some ⟨Hg, Ho + k, none⟩)) rfl (by kernel_rfl) (by kernel_rfl) (by kernel_rfl) (fun _ _ _ h => h) (Or.inl ⟨by rfl, fun w0 hSw => by (go_simp)⟩) hH ?_
    simp only [Act.put, List.setIfInBounds_toArray, List.set_cons_zero, List.set_cons_succ]
    refine wpAnyH_take (i := 16) (oi := { dst := some 45, op := Op.load 3 (Operand.tmp 44), type := 3, pos := "l18_rays.go:204", after := #[{ on := 15, ground := Ground.data }, { on := 10, ground := Ground.guard }], guard := some (10, false) }) (v := .int .i64 hk1) rfl (by kernel_rfl) (by kernel_rfl) (by kernel_rfl) (fun _ _ _ h => h) (Or.inl ⟨by rfl, fun w0 hSw => by ((have e9 := cell_nx pH hSw); go_simp)⟩) hH ?_
    simp only [Act.put, List.setIfInBounds_toArray, List.set_cons_zero, List.set_cons_succ]
    refine wpAnyH_take (i := 17) (oi := { dst := some 46, op := Op.fieldAddr 85 (Operand.tmp 5) 1, type := 0, pos := "l18_rays.go:204", after := #[{ on := 10, ground := Ground.guard }], guard := some (10, false) }) (v := .pointer (some ⟨w.heap.size + 1 + 1, 1, none⟩)) rfl (by kernel_rfl) (by kernel_rfl) (by kernel_rfl) (fun _ _ _ h => h) (Or.inl ⟨by rfl, fun w0 hSw => by (go_simp)⟩) hH ?_
    simp only [Act.put, List.setIfInBounds_toArray, List.set_cons_zero, List.set_cons_succ]
    refine wpAnyH_take (i := 18) (oi := { dst := some 47, op := Op.load 3 (Operand.tmp 46), type := 3, pos := "l18_rays.go:204", after := #[{ on := 17, ground := Ground.data }, { on := 10, ground := Ground.guard }], guard := some (10, false) }) (v := .int .i64 d) rfl (by kernel_rfl) (by kernel_rfl) (by kernel_rfl) (fun _ _ _ h => h) (Or.inl ⟨by rfl, fun w0 hSw => by ((have e9 := cell_nx x21 hSw); go_simp)⟩) hH ?_
    simp only [Act.put, List.setIfInBounds_toArray, List.set_cons_zero, List.set_cons_succ]
    refine wpAnyH_take (i := 19) (oi := { dst := some 48, op := Op.binOp BinOp.mul 3 (Operand.tmp 45) (Operand.tmp 47) 3, type := 3, pos := "l18_rays.go:204", after := #[{ on := 16, ground := Ground.data }, { on := 18, ground := Ground.data }, { on := 10, ground := Ground.guard }], guard := some (10, false) }) (v := .int .i64 hd) rfl (by kernel_rfl) (by kernel_rfl) (by kernel_rfl) (fun _ _ _ h => h) (Or.inl ⟨by rfl, fun w0 hSw => by (go_simp)⟩) hH ?_
    simp only [Act.put, List.setIfInBounds_toArray, List.set_cons_zero, List.set_cons_succ]
    refine wpAnyH_take (i := 20) (oi := { dst := some 49, op := Op.binOp BinOp.gtr 3 (Operand.tmp 40) (Operand.tmp 48) 3, type := 4, pos := "l18_rays.go:204", after := #[{ on := 11, ground := Ground.data }, { on := 19, ground := Ground.data }, { on := 10, ground := Ground.guard }], guard := some (10, false) }) (v := .bool false) rfl (by kernel_rfl) (by kernel_rfl) (by kernel_rfl) (fun _ _ _ h => h) (Or.inl ⟨by rfl, fun w0 hSw => by (go_simp)⟩) hH ?_
    simp only [Act.put, List.setIfInBounds_toArray, List.set_cons_zero, List.set_cons_succ]
    refine wpAnyH_take (i := 21) (oi := { dst := some 50, op := Op.pick (Operand.tmp 39) (Operand.const (Value.bool true)) (Operand.tmp 49), type := 4, pos := "l18_rays.go:204", after := #[{ on := 10, ground := Ground.data }, { on := 20, ground := Ground.data }], guard := none }) (v := .bool false) rfl (by kernel_rfl) (by kernel_rfl) (by kernel_rfl) (fun _ _ _ h => h) (Or.inl ⟨by rfl, fun w0 hSw => by (go_simp)⟩) hH ?_
    simp only [Act.put, List.setIfInBounds_toArray, List.set_cons_zero, List.set_cons_succ]
    refine wpAnyH_done (by kernel_rfl) ?_ _
    go_wp2
    go_roundw
    case rel => exact ⟨k + 1, by omega, by go_num, HN, BX.out.trans (hH.mono BX.out.size)⟩
    case measure => simp [intOf]; omega
end Go.Proofs.Ytngmaeinehfimaa
