/- What a ray meets: the model. -/
import Derived.Test.YtngmaeinehfimaaLi
namespace Go.Proofs.Ytngmaeinehfimaa
open Go.ChangeShapes Go.WideShapes Go.ChangeAt Go.RowKit
set_option linter.unusedVariables false
theorem step_val {P : Program} {ops : Array Oper} {o : Oper} {a : Act} {w : World} {K : Act → World → Prop} {Q : Exit → Act → World → Prop} {E : Prop} (v : Value) (w' : World) (hgd : o.guard = none) (hrun : (execOp a.eval o).run P w = .ok (.value v) w') (hK : K (a.put o.dst v) w') : if Region.wanted o (yielded ops a.tmps) = true then Oper.wp P o a w K Q else E := by
  have hw : Region.wanted o (yielded ops a.tmps) = true := by simp [Region.wanted, hgd]
  rw [if_pos hw]
  unfold Oper.wp
  rw [hrun, Oper.upon_value]
  exact hK
theorem step_skip {P : Program} {ops : Array Oper} {o : Oper} {a : Act} {w : World} {K : Act → World → Prop} {Q : Exit → Act → World → Prop} {E : Prop} (w' : World) (hgd : o.guard = none) (hrun : (execOp a.eval o).run P w = .ok .skip w') (hK : K (a.put o.dst undef) w') : if Region.wanted o (yielded ops a.tmps) = true then Oper.wp P o a w K Q else E := by
  have hw : Region.wanted o (yielded ops a.tmps) = true := by simp [Region.wanted, hgd]
  rw [if_pos hw]
  unfold Oper.wp
  rw [hrun, Oper.upon_skip]
  exact hK
/-- What stays and what changes while the model looks. -/
structure Mh (w : World) (ba bb ra rb : Value) (n d p q : Int) (v : World) : Prop where
  b : C2 v w.heap.size ba bb
  r : C2 v (w.heap.size + 1) ra rb
  z : C2 v (w.heap.size + 1 + 1) (.int .i64 0) (.int .i64 0)
  i : C2 v (w.heap.size + 1 + 1 + 1) (.int .i64 n) (.int .i64 d)
  o : C2 v (w.heap.size + 1 + 1 + 1 + 1) (.int .i64 p) (.int .i64 q)
  w : Below w.heap.size w v
theorem Mh.next {w v v' : World} {ba bb ra rb : Value} {n d p q : Int} (h : Mh w ba bb ra rb n d p q v) (k : Below v.heap.size v v') : Mh w ba bb ra rb n d p q v' := ⟨h.b.next k, h.r.next k, h.z.next k, h.i.next k, h.o.next k, h.w.trans (k.mono h.w.size)⟩
theorem Mh.far {w v : World} {ba bb ra rb : Value} {n d p q : Int} (h : Mh w ba bb ra rb n d p q v) (g j : Nat) (x : Value) (hg : w.heap.size + 5 ≤ g) : Mh w ba bb ra rb n d p q (v.setCell ⟨g, j, none⟩ x) := ⟨h.b.far _ _ _ (by omega), h.r.far _ _ _ (by omega), h.z.far _ _ _ (by omega), h.i.far _ _ _ (by omega), h.o.far _ _ _ (by omega), h.w.setCell (p := ⟨g, j, none⟩) (by simp; omega) _⟩
theorem Mh.setI {w v : World} {ba bb ra rb : Value} {n d p q : Int} (h : Mh w ba bb ra rb n d p q v) (m e : Int) : Mh w ba bb ra rb m e p q ((v.setCell ⟨w.heap.size + 1 + 1 + 1, 0, none⟩ (.int .i64 m)).setCell ⟨w.heap.size + 1 + 1 + 1, 1, none⟩ (.int .i64 e)) :=
  ⟨(h.b.far _ _ _ (by omega)).far _ _ _ (by omega), (h.r.far _ _ _ (by omega)).far _ _ _ (by omega), (h.z.far _ _ _ (by omega)).far _ _ _ (by omega), (h.i.s0 _).s1 _, (h.o.far _ _ _ (by omega)).far _ _ _ (by omega), (h.w.setCell (p := ⟨w.heap.size + 1 + 1 + 1, 0, none⟩) (by simp; omega) _).setCell (p := ⟨w.heap.size + 1 + 1 + 1, 1, none⟩) (by simp; omega) _⟩
theorem Mh.setO {w v : World} {ba bb ra rb : Value} {n d p q : Int} (h : Mh w ba bb ra rb n d p q v) (m e : Int) : Mh w ba bb ra rb n d m e ((v.setCell ⟨w.heap.size + 1 + 1 + 1 + 1, 0, none⟩ (.int .i64 m)).setCell ⟨w.heap.size + 1 + 1 + 1 + 1, 1, none⟩ (.int .i64 e)) :=
  ⟨(h.b.far _ _ _ (by omega)).far _ _ _ (by omega), (h.r.far _ _ _ (by omega)).far _ _ _ (by omega), (h.z.far _ _ _ (by omega)).far _ _ _ (by omega), (h.i.far _ _ _ (by omega)).far _ _ _ (by omega), (h.o.s0 _).s1 _, (h.w.setCell (p := ⟨w.heap.size + 1 + 1 + 1 + 1, 0, none⟩) (by simp; omega) _).setCell (p := ⟨w.heap.size + 1 + 1 + 1 + 1, 1, none⟩) (by simp; omega) _⟩
/-- A fraction over an axis, as the model reckons it: the nearer or the farther side. -/
theorem over_sides {lo hi f w : Int} (h : lo ≤ hi) (hw : w ≠ 0) : ∃ an ad zn zd : Int, ∃ sw : Bool,
    (0 < w → (an, ad) = (rdN (lo - f) w, rdD (lo - f) w) ∧ (zn, zd) = (rdN (hi - f) w, rdD (hi - f) w)) ∧ (w < 0 → (an, ad) = (rdN (-(lo - f)) (-w), rdD (-(lo - f)) (-w)) ∧ (zn, zd) = (rdN (-(hi - f)) (-w), rdD (-(hi - f)) (-w))) ∧
    decide (zn * ad < an * zd) = sw ∧
    (sw = false → an = rdN (cN lo hi f w) (cD w) ∧ ad = rdD (cN lo hi f w) (cD w) ∧ zn = rdN (zN lo hi f w) (cD w) ∧ zd = rdD (zN lo hi f w) (cD w)) ∧
    (sw = true → zn = rdN (cN lo hi f w) (cD w) ∧ zd = rdD (cN lo hi f w) (cD w) ∧ an = rdN (zN lo hi f w) (cD w) ∧ ad = rdD (zN lo hi f w) (cD w)) := by
  by_cases h0 : 0 < w
  · have e1 : cN lo hi f w = lo - f := if_pos h0
    have e2 : zN lo hi f w = hi - f := if_pos h0
    have e3 : cD w = w := if_pos h0
    refine ⟨_, _, _, _, false, fun _ => ⟨rfl, rfl⟩, (fun h => by omega), ?_, fun _ => ?_, (fun h => nomatch h)⟩
    · apply decide_eq_false
      rw [rd_lt h0 h0]
      have := Int.mul_le_mul_of_nonneg_right (show lo - f ≤ hi - f by omega) (Int.le_of_lt h0)
      omega
    · rw [e1, e2, e3]; exact ⟨rfl, rfl, rfl, rfl⟩
  · have h1 : w < 0 := by omega
    have e1 : cN lo hi f w = -(hi - f) := by unfold cN; rw [if_neg h0, if_pos h1]; omega
    have e2 : zN lo hi f w = -(lo - f) := by unfold zN; rw [if_neg h0, if_pos h1]; omega
    have e3 : cD w = -w := by unfold cD; rw [if_neg h0, if_pos h1]
    have h2 : 0 < -w := by omega
    by_cases h3 : lo < hi
    · refine ⟨_, _, _, _, true, (fun h => by omega), fun _ => ⟨rfl, rfl⟩, ?_, (fun h => nomatch h), fun _ => ?_⟩
      · apply decide_eq_true
        rw [rd_lt h2 h2]
        exact Int.mul_lt_mul_of_pos_right (by omega) h2
      · rw [e1, e2, e3]; exact ⟨rfl, rfl, rfl, rfl⟩
    · obtain rfl : lo = hi := by omega
      refine ⟨_, _, _, _, false, (fun h => by omega), fun _ => ⟨rfl, rfl⟩, ?_, fun _ => ?_, (fun h => nomatch h)⟩
      · apply decide_eq_false
        exact Int.lt_irrefl _
      · rw [e1, e2, e3]; exact ⟨rfl, rfl, rfl, rfl⟩
theorem mb_rd {n d : Int} (h : MB n d) : MB (rdN n d) (rdD n d) := ⟨by have := rdN_bnd (n := n) (B := 2000) h.2.1 h.1; exact this, rdD_pos h.2.1, by have := rdD_le (n := n) h.2.1; have := h.2.2; omega⟩
set_option maxRecDepth 100000 in
set_option maxHeartbeats 16000000 in
theorem mhit (la ha fa wa : Value) (L H F W : Nat → Int) (w : World) (RL : R3 w la L) (RH : R3 w ha H) (RF : R3 w fa F) (RW : R3 w wa W) (iL : InC 3 L) (iH : InC 3 H) (iF : InC 3 F) (iW : InC 3 W) (hLH : ∀ i, i < 3 → L i ≤ H i) (hW0 : ∃ i, i < 3 ∧ W i ≠ 0) : Calls Try.prog 54 #[.agg #[la, ha], .agg #[fa, wa]] w fun e w' => ∃ n d : Int, e = .returned (.tuple #[.agg #[.int .i64 n, .int .i64 d], .bool (hiB L H F W)]) ∧ (hiB L H F W = true → n = hiN L H F W ∧ d = hiD L H F W) ∧ Below w.heap.size w w' := by
  obtain ⟨Lg, Lo, Lc, rfl, Lh⟩ := RL
  obtain ⟨Hg, Ho, Hc, rfl, Hh⟩ := RH
  obtain ⟨Fg, Fo, Fc, rfl, Fh⟩ := RF
  obtain ⟨Wg, Wo, Wc, rfl, Wh⟩ := RW
  have HR : Hid (∀ v, Below w.heap.size w v → ∀ k : Nat, k < 3 → v.cell? ⟨Lg, Lo + k, none⟩ = some (.int .i64 (L k)) ∧ v.cell? ⟨Hg, Ho + k, none⟩ = some (.int .i64 (H k)) ∧ v.cell? ⟨Fg, Fo + k, none⟩ = some (.int .i64 (F k)) ∧ v.cell? ⟨Wg, Wo + k, none⟩ = some (.int .i64 (W k))) := fun v b k hk => ⟨cell_nx (Lh k hk) b, cell_nx (Hh k hk) b, cell_nx (Fh k hk) b, cell_nx (Wh k hk) b⟩
  have HI : Hid (∀ k : Nat, k < 3 → (-1000 ≤ L k ∧ L k ≤ 1000) ∧ (-1000 ≤ H k ∧ H k ≤ 1000) ∧ (-1000 ≤ F k ∧ F k ≤ 1000) ∧ (-1000 ≤ W k ∧ W k ≤ 1000) ∧ L k ≤ H k) := fun k hk => ⟨iL k hk, iH k hk, iF k hk, iW k hk, hLH k hk⟩
  have HMk : Hid (∀ k : Nat, k ≤ 3 → MB (fst L H F W k).1 (fst L H F W k).2) := fun k hk => by
    have h := fst_bnd iL iH iF iW k hk
    have p := fst_pos L H F W k
    exact ⟨⟨by omega, h.2⟩, p.1, h.1⟩
  have HFA : Hid (∀ k : Nat, k < 3 → W k = 0 → ¬ (L k ≤ F k ∧ F k ≤ H k) → hiB L H F W = false) := fun k hk h0 h => by
    cases hb : hiB L H F W
    · rfl
    · exact absurd (((hiB_iff L H F W).1 hb).1 k hk h0) h
  have HEN : Hid (∀ p q : Int, (∀ i, i < 3 → W i = 0 → L i ≤ F i ∧ F i ≤ H i) → Mn L H F W 3 p q → hiB L H F W = !decide (p * rdD (fst L H F W 3).1 (fst L H F W 3).2 < rdN (fst L H F W 3).1 (fst L H F W 3).2 * q)) := fun p q h1 h2 => hi_end h1 h2
  have HW0 := Hid.mk hW0
  clear Lh Hh Fh Wh iL iH iF iW hLH hW0
  obtain ⟨V, hV⟩ : ∃ V, (((((w.alloc (.cells #[.slice (some ⟨Lg, Lo, none⟩) 3 Lc, .slice (some ⟨Hg, Ho, none⟩) 3 Hc] 27)).alloc (.cells #[.slice (some ⟨Fg, Fo, none⟩) 3 Fc, .slice (some ⟨Wg, Wo, none⟩) 3 Wc] 35)).alloc (.cells #[.int .i64 0, .int .i64 0] 81)).alloc (.cells #[.int .i64 0, .int .i64 1] 81)).alloc (.cells #[.int .i64 1, .int .i64 1] 81)) = V := ⟨_, rfl⟩
  have BV : Below w.heap.size w V := by rw [← hV]; exact ((((alloc_b).trans ((alloc_b).mono (by simp))).trans ((alloc_b).mono (by simp; omega))).trans ((alloc_b).mono (by simp; omega))).trans ((alloc_b).mono (by simp; omega))
  have X0 : C2 V (w.heap.size) (.slice (some ⟨Lg, Lo, none⟩) 3 Lc) (.slice (some ⟨Hg, Ho, none⟩) 3 Hc) := by
    have h := ((((C2.new w 27 (.slice (some ⟨Lg, Lo, none⟩) 3 Lc) (.slice (some ⟨Hg, Ho, none⟩) 3 Hc)).next (alloc_b (o := .cells #[.slice (some ⟨Fg, Fo, none⟩) 3 Fc, .slice (some ⟨Wg, Wo, none⟩) 3 Wc] 35))).next (alloc_b (o := .cells #[.int .i64 0, .int .i64 0] 81))).next (alloc_b (o := .cells #[.int .i64 0, .int .i64 1] 81))).next (alloc_b (o := .cells #[.int .i64 1, .int .i64 1] 81))
    rw [hV] at h
    exact h
  have X1 : C2 V (w.heap.size + 1) (.slice (some ⟨Fg, Fo, none⟩) 3 Fc) (.slice (some ⟨Wg, Wo, none⟩) 3 Wc) := by
    have h := (((C2.new (w.alloc (.cells #[.slice (some ⟨Lg, Lo, none⟩) 3 Lc, .slice (some ⟨Hg, Ho, none⟩) 3 Hc] 27)) 35 (.slice (some ⟨Fg, Fo, none⟩) 3 Fc) (.slice (some ⟨Wg, Wo, none⟩) 3 Wc)).next (alloc_b (o := .cells #[.int .i64 0, .int .i64 0] 81))).next (alloc_b (o := .cells #[.int .i64 0, .int .i64 1] 81))).next (alloc_b (o := .cells #[.int .i64 1, .int .i64 1] 81))
    rw [hV] at h
    simpa only [World.size_alloc] using h
  have X2 : C2 V (w.heap.size + 1 + 1) (.int .i64 0) (.int .i64 0) := by
    have h := ((C2.new ((w.alloc (.cells #[.slice (some ⟨Lg, Lo, none⟩) 3 Lc, .slice (some ⟨Hg, Ho, none⟩) 3 Hc] 27)).alloc (.cells #[.slice (some ⟨Fg, Fo, none⟩) 3 Fc, .slice (some ⟨Wg, Wo, none⟩) 3 Wc] 35)) 81 (.int .i64 0) (.int .i64 0)).next (alloc_b (o := .cells #[.int .i64 0, .int .i64 1] 81))).next (alloc_b (o := .cells #[.int .i64 1, .int .i64 1] 81))
    rw [hV] at h
    simpa only [World.size_alloc] using h
  have X3 : C2 V (w.heap.size + 1 + 1 + 1) (.int .i64 0) (.int .i64 1) := by
    have h := (C2.new (((w.alloc (.cells #[.slice (some ⟨Lg, Lo, none⟩) 3 Lc, .slice (some ⟨Hg, Ho, none⟩) 3 Hc] 27)).alloc (.cells #[.slice (some ⟨Fg, Fo, none⟩) 3 Fc, .slice (some ⟨Wg, Wo, none⟩) 3 Wc] 35)).alloc (.cells #[.int .i64 0, .int .i64 0] 81)) 81 (.int .i64 0) (.int .i64 1)).next (alloc_b (o := .cells #[.int .i64 1, .int .i64 1] 81))
    rw [hV] at h
    simpa only [World.size_alloc] using h
  have X4 : C2 V (w.heap.size + 1 + 1 + 1 + 1) (.int .i64 1) (.int .i64 1) := by
    have h := C2.new ((((w.alloc (.cells #[.slice (some ⟨Lg, Lo, none⟩) 3 Lc, .slice (some ⟨Hg, Ho, none⟩) 3 Hc] 27)).alloc (.cells #[.slice (some ⟨Fg, Fo, none⟩) 3 Fc, .slice (some ⟨Wg, Wo, none⟩) 3 Wc] 35)).alloc (.cells #[.int .i64 0, .int .i64 0] 81)).alloc (.cells #[.int .i64 0, .int .i64 1] 81)) 81 (.int .i64 1) (.int .i64 1)
    rw [hV] at h
    simpa only [World.size_alloc] using h
  have HVE := Hid.mk hV
  clear hV
  have HM0 : Hid (Mh w (.slice (some ⟨Lg, Lo, none⟩) 3 Lc) (.slice (some ⟨Hg, Ho, none⟩) 3 Hc) (.slice (some ⟨Fg, Fo, none⟩) 3 Fc) (.slice (some ⟨Wg, Wo, none⟩) 3 Wc) 0 1 1 1 V) := ⟨X0, X1, X2, X3, X4, BV⟩
  clear X0 X1 X2 X3 X4 BV
  have E0 : Hid (rdN (fst L H F W 0).1 (fst L H F W 0).2 = 0 ∧ rdD (fst L H F W 0).1 (fst L H F W 0).2 = 1) := ⟨by rw [fst]; decide, by rw [fst]; decide⟩
  go_enter Try.func54, Try.ntmps54
  go_upto_region 4 with fail
  rw [HVE.out]
  clear HVE
  go_wp2
  go_loopw [8, 9] (fun x y wx => ∃ (k : Nat) (bd : Bool) (p q : Int), k ≤ 3 ∧ x = .bool bd ∧ y = .int .i64 k ∧ Hid (Mh w (.slice (some ⟨Lg, Lo, none⟩) 3 Lc) (.slice (some ⟨Hg, Ho, none⟩) 3 Hc) (.slice (some ⟨Fg, Fo, none⟩) 3 Fc) (.slice (some ⟨Wg, Wo, none⟩) 3 Wc) (rdN (fst L H F W k).1 (fst L H F W k).2) (rdD (fst L H F W k).1 (fst L H F W k).2) p q wx) ∧ Hid (∀ j, j < k → W j = 0 → L j ≤ F j ∧ F j ≤ H j) ∧ Hid (bd = false → ∀ j, j < k → W j = 0) ∧ Hid (bd = true → Mn L H F W k p q) ∧ Hid (MB p q)) (fun _ y _ => 3 - (intOf y).toNat)
  case atStart => exact ⟨0, false, 1, 1, Nat.zero_le _, rfl, rfl, by rw [E0.out.1, E0.out.2]; exact HM0.out, fun j hj => absurd hj (Nat.not_lt_zero _), fun _ j hj => absurd hj (Nat.not_lt_zero _), (fun h => nomatch h), ⟨⟨by omega, by omega⟩, by omega, by omega⟩⟩
  case round =>
    obtain ⟨k, bd, p, q, hk, rfl, rfl, HM, HW, HB0, HB1, HPQ⟩ := hrel
    clear HM0
    by_cases hkn : k < 3
    case neg =>
      obtain rfl : k = 3 := by omega
      have i1 : ¬ ((3 : Nat) : Int) < 3 := by omega
      cases bd
      case false =>
        exfalso
        obtain ⟨i, hi, h⟩ := HW0.out
        exact h (HB0.out rfl i hi)
      have HHB := Hid.mk (HEN.out p q HW.out (HB1.out rfl))
      have HRN : Hid (rdN (fst L H F W 3).1 (fst L H F W 3).2 = hiN L H F W ∧ rdD (fst L H F W 3).1 (fst L H F W 3).2 = hiD L H F W) := ⟨rfl, rfl⟩
      have hmr := mb_rd (HMk.out 3 (by omega))
      generalize rdN (fst L H F W 3).1 (fst L H F W 3).2 = rn at HM HHB HRN hmr
      generalize rdD (fst L H F W 3).1 (fst L H F W 3).2 = rd at HM HHB HRN hmr
      have HLS : Hid (∀ w', Calls Try.prog 81 #[.agg #[.int .i64 p, .int .i64 q], .agg #[.int .i64 rn, .int .i64 rd]] w' fun r w'' => r = .returned (.bool (decide (p * rd < rn * q))) ∧ Below w'.heap.size w' w'') := fun w' => mless p q rn rd w' HPQ.out hmr
      generalize decide (p * rd < rn * q) = lb at HLS HHB
      clear hmr HW HB0 HB1 HPQ HR HI HMk HFA HEN HW0 E0
      go_upto_region 22 with fail
      have MY := Hid.mk (HM.out.next (below_drew (Below.refl wr.heap.size wr)))
      clear HM
      generalize hWW : wr.drew = WX
      rw [hWW] at MY
      refine wp_region_held_drew (S := fun v => Only (w.heap.size + 1 + 1) WX v) (by kernel_rfl) (by rw [hWW]; exact Only.refl _ _) (fun hH => ?_)
      rw [hWW] at hH ⊢
      clear hWW
      have xi0 := MY.out.i.c0
      have xi1 := MY.out.i.c1
      have xo0 := MY.out.o.c0
      have xo1 := MY.out.o.c1
      refine wpAnyH_take (i := 0) (oi := { dst := some 96, op := Op.load 81 (Operand.tmp 6), type := 81, pos := "l18_rays.go:82", after := #[], guard := none }) (v := .agg #[.int .i64 rn, .int .i64 rd]) rfl (by kernel_rfl) (by kernel_rfl) (by kernel_rfl) (fun _ _ _ h => h) (Or.inl ⟨by rfl, fun w0 hSw => by ((have e9 := only_nx xi0 hSw (by simp <;> omega)); (have e8 := only_nx xi1 hSw (by simp <;> omega)); go_simp)⟩) hH ?_
      simp only [Act.put, List.setIfInBounds_toArray, List.set_cons_zero, List.set_cons_succ]
      refine wpAnyH_take (i := 1) (oi := { dst := some 97, op := Op.move (Operand.tmp 8), type := 4, pos := "l18_rays.go:82", after := #[], guard := none }) (v := .bool true) rfl (by kernel_rfl) (by kernel_rfl) (by kernel_rfl) (fun _ _ _ h => h) (Or.inl ⟨by rfl, fun w0 hSw => by (go_simp)⟩) hH ?_
      simp only [Act.put, List.setIfInBounds_toArray, List.set_cons_zero, List.set_cons_succ]
      refine wpAnyH_take (i := 2) (oi := { dst := some 98, op := Op.unOp UnOp.not 4 (Operand.tmp 97), type := 4, pos := "l18_rays.go:82", after := #[{ on := 1, ground := Ground.data }], guard := none }) (v := .bool false) rfl (by kernel_rfl) (by kernel_rfl) (by kernel_rfl) (fun _ _ _ h => h) (Or.inl ⟨by rfl, fun w0 hSw => by (go_simp)⟩) hH ?_
      simp only [Act.put, List.setIfInBounds_toArray, List.set_cons_zero, List.set_cons_succ]
      refine wpAnyH_take (i := 3) (oi := { dst := some 99, op := Op.move (Operand.tmp 98), type := 4, pos := "l18_rays.go:82", after := #[{ on := 2, ground := Ground.data }], guard := none }) (v := .bool false) rfl (by kernel_rfl) (by kernel_rfl) (by kernel_rfl) (fun _ _ _ h => h) (Or.inl ⟨by rfl, fun w0 hSw => by (go_simp)⟩) hH ?_
      simp only [Act.put, List.setIfInBounds_toArray, List.set_cons_zero, List.set_cons_succ]
      refine wpAnyH_take (i := 4) (oi := { dst := some 100, op := Op.load 81 (Operand.tmp 7), type := 81, pos := "l18_rays.go:82", after := #[{ on := 3, ground := Ground.guard }], guard := some (3, false) }) (v := .agg #[.int .i64 p, .int .i64 q]) rfl (by kernel_rfl) (by kernel_rfl) (by kernel_rfl) (fun _ _ _ h => h) (Or.inl ⟨by rfl, fun w0 hSw => by ((have e9 := only_nx xo0 hSw (by simp <;> omega)); (have e8 := only_nx xo1 hSw (by simp <;> omega)); go_simp)⟩) hH ?_
      simp only [Act.put, List.setIfInBounds_toArray, List.set_cons_zero, List.set_cons_succ]
      refine wpAnyH_take (i := 5) (oi := { dst := some 101, op := Op.load 81 (Operand.tmp 6), type := 81, pos := "l18_rays.go:82", after := #[{ on := 3, ground := Ground.guard }], guard := some (3, false) }) (v := .agg #[.int .i64 rn, .int .i64 rd]) rfl (by kernel_rfl) (by kernel_rfl) (by kernel_rfl) (fun _ _ _ h => h) (Or.inl ⟨by rfl, fun w0 hSw => by ((have e9 := only_nx xi0 hSw (by simp <;> omega)); (have e8 := only_nx xi1 hSw (by simp <;> omega)); go_simp)⟩) hH ?_
      simp only [Act.put, List.setIfInBounds_toArray, List.set_cons_zero, List.set_cons_succ]
      refine wpAnyH_ready (rs := [6]) (by kernel_rfl) (by simp) ?_
      refine (AllReadyH.cons (o := { dst := some 102, op := Op.call { callee := Callee.value (Operand.func 81), args := #[Operand.tmp 100, Operand.tmp 101], argTypes := #[81, 81] }, type := 4, pos := "l18_rays.go:82", after := #[{ on := 4, ground := Ground.data }, { on := 5, ground := Ground.data }, { on := 3, ground := Ground.chain }, { on := 3, ground := Ground.guard }], guard := some (3, false) }) rfl (fun K hK => ?_) AllReadyH.nil)
      refine step_callW 81 #[.agg #[.int .i64 p, .int .i64 q], .agg #[.int .i64 rn, .int .i64 rd]] (fun z v w' => z = .bool lb ∧ Below v.heap.size v w') (by rfl) (by go_simp) ((HLS.out _).mono fun e w' ⟨h1, h2⟩ => ⟨_, h1, rfl, h2⟩) ?_
      rintro z9 w9 ⟨rfl, B9⟩
      simp only [Act.put, List.setIfInBounds_toArray, List.set_cons_zero, List.set_cons_succ]
      replace MY := Hid.mk (MY.out.next B9)
      refine hK.out _ _ (hH.trans (Only.ofBelow B9)) (fun hH' => ?_)
      clear hK K
      replace hH := hH'
      clear hH' 
      clear B9
      refine wpAnyH_take (i := 7) (oi := { dst := some 103, op := Op.unOp UnOp.not 4 (Operand.tmp 102), type := 4, pos := "l18_rays.go:82", after := #[{ on := 6, ground := Ground.data }, { on := 3, ground := Ground.guard }, { on := 9, ground := Ground.gcOnly Departure.lateStores }], guard := some (3, false) }) (v := .bool (!lb)) rfl (by kernel_rfl) (by kernel_rfl) (by kernel_rfl) (fun _ _ _ h => h) (Or.inl ⟨by rfl, fun w0 hSw => by (go_simp)⟩) hH ?_
      simp only [Act.put, List.setIfInBounds_toArray, List.set_cons_zero, List.set_cons_succ]
      refine wpAnyH_take (i := 8) (oi := { dst := some 104, op := Op.pick (Operand.tmp 99) (Operand.const (Value.bool true)) (Operand.tmp 103), type := 4, pos := "l18_rays.go:82", after := #[{ on := 3, ground := Ground.data }, { on := 7, ground := Ground.data }, { on := 9, ground := Ground.gcOnly Departure.lateStores }], guard := none }) (v := .bool (!lb)) rfl (by kernel_rfl) (by kernel_rfl) (by kernel_rfl) (fun _ _ _ h => h) (Or.inl ⟨by rfl, fun w0 hSw => by (go_simp)⟩) hH ?_
      simp only [Act.put, List.setIfInBounds_toArray, List.set_cons_zero, List.set_cons_succ]
      refine wpAnyH_ready (rs := [9]) (by kernel_rfl) (by simp) ?_
      refine (AllReadyH.cons (o := { dst := none, op := Op.store 81 (Operand.tmp 4) (Operand.tmp 96), type := 0, pos := "l18_rays.go:82", after := #[{ on := 0, ground := Ground.data }, { on := 6, ground := Ground.chain }, { on := 0, ground := Ground.phase }, { on := 1, ground := Ground.textOnly Departure.lateStores }, { on := 2, ground := Ground.textOnly Departure.lateStores }, { on := 3, ground := Ground.textOnly Departure.lateStores }, { on := 4, ground := Ground.textOnly Departure.lateStores }, { on := 5, ground := Ground.textOnly Departure.lateStores }, { on := 6, ground := Ground.textOnly Departure.lateStoresUnsure }, { on := 7, ground := Ground.textOnly Departure.lateStores }, { on := 8, ground := Ground.textOnly Departure.lateStores }], guard := none }) rfl (fun K hK => ?_) AllReadyH.nil)
      have s0 := MY.out.z.c0
      have s1 := MY.out.z.c1
      have sf := MY.out.z.f
      refine step_skip (set2 w9 (w.heap.size + 1 + 1) (.int .i64 rn) (.int .i64 rd)) (by rfl) (by unfold set2; go_simp) ?_
      have D9 := MY.out.z.put (.int .i64 rn) (.int .i64 rd)
      have BE : Below w.heap.size w (set2 w9 (w.heap.size + 1 + 1) (.int .i64 rn) (.int .i64 rd)) := MY.out.w.trans ((only_set2 w9 (w.heap.size + 1 + 1) (.int .i64 rn) (.int .i64 rd)).below (by omega) MY.out.w.size)
      refine hK.out _ _ (hH.trans (only_set2 w9 (w.heap.size + 1 + 1) (.int .i64 rn) (.int .i64 rd))) (fun hH' => ?_)
      clear hK K s0 s1 sf
      replace hH := hH'
      clear hH' 
      refine wpAnyH_take (i := 10) (oi := { dst := some 5, op := Op.assign (Operand.tmp 104), type := 4, pos := "l18_rays.go:82", after := #[{ on := 8, ground := Ground.data }, { on := 9, ground := Ground.chain }, { on := 0, ground := Ground.phase }, { on := 1, ground := Ground.phase }, { on := 2, ground := Ground.phase }, { on := 3, ground := Ground.phase }, { on := 4, ground := Ground.phase }, { on := 5, ground := Ground.phase }, { on := 6, ground := Ground.phase }, { on := 7, ground := Ground.phase }, { on := 8, ground := Ground.phase }, { on := 9, ground := Ground.phase }], guard := none }) (v := .bool (!lb)) rfl (by kernel_rfl) (by kernel_rfl) (by kernel_rfl) (fun _ _ _ h => h) (Or.inl ⟨by rfl, fun w0 hSw => by (go_simp)⟩) hH ?_
      simp only [Act.put, List.setIfInBounds_toArray, List.set_cons_zero, List.set_cons_succ]
      refine wpAnyH_done (by kernel_rfl) ?_ _
      clear hH
      go_wp2
      generalize set2 w9 (w.heap.size + 1 + 1) (.int .i64 rn) (.int .i64 rd) = VF at D9 BE ⊢
      have y0 := D9.c0
      have y1 := D9.c1
      exact bodyPost_ret (v := .tuple #[.agg #[.int .i64 rn, .int .i64 rd], .bool (!lb)]) (by simp [results, Try.results54, go_sem, y0, y1]) rfl ⟨rn, rd, by rw [HHB.out], (fun _ => HRN.out), BE⟩
    have i1 : (k : Int) < 3 := by omega
    have i0 : (0 : Int) ≤ (k : Int) := by omega
    obtain ⟨pL, pH, pF, pW⟩ := HR.out wr HM.out.w k hkn
    obtain ⟨bL, bH, bF, bW, bLH⟩ := HI.out k hkn
    have xb0 := HM.out.b.c0
    have xb1 := HM.out.b.c1
    have xr0 := HM.out.r.c0
    have xr1 := HM.out.r.c1
    have HMf := Hid.mk (HMk.out k hk)
    by_cases hw : W k = 0
    case pos =>
      have HFN : Hid (fst L H F W (k + 1) = fst L H F W k) := by
        show _ = _
        rw [fst, hw]
        have e : ¬ (fst L H F W k).1 * cD 0 < cN (L k) (H k) (F k) 0 * (fst L H F W k).2 := by
          have h1 : cN (L k) (H k) (F k) 0 = 0 := rfl
          have h2 : cD 0 = 1 := rfl
          have h3 := (fst_pos L H F W k).2
          rw [h1, h2]
          omega
        rw [if_neg e]
      have HFk := Hid.mk (HFA.out k hkn hw)
      have HWk : Hid (L k ≤ F k ∧ F k ≤ H k → ∀ j, j < k + 1 → W j = 0 → L j ≤ F j ∧ F j ≤ H j) := fun h j hj h0 => if e : j = k then e ▸ h else HW.out j (by omega) h0
      have HB0n : Hid (bd = false → ∀ j, j < k + 1 → W j = 0) := fun h j hj => if e : j = k then e ▸ hw else HB0.out h j (by omega)
      have HB1n : Hid (bd = true → Mn L H F W (k + 1) p q) := fun h => (HB1.out h).skip hw
      rw [hw] at pW
      generalize L k = lk at pL bL HFk HWk bLH
      generalize H k = hk1 at pH bH HFk HWk bLH
      generalize F k = fk at pF bF HFk HWk
      clear hw bW HW HB0 HB1
      go_upto_region 9 with fail
      have MX := Hid.mk (HM.out.next (below_drew (Below.refl wr.heap.size wr)))
      generalize hWW : wr.drew = WX
      have xb0 := cell_nx xb0 (below_drew (Below.refl wr.heap.size wr))
      have xb1 := cell_nx xb1 (below_drew (Below.refl wr.heap.size wr))
      have xr0 := cell_nx xr0 (below_drew (Below.refl wr.heap.size wr))
      have xr1 := cell_nx xr1 (below_drew (Below.refl wr.heap.size wr))
      have pL := cell_nx pL (below_drew (Below.refl wr.heap.size wr))
      have pH := cell_nx pH (below_drew (Below.refl wr.heap.size wr))
      have pF := cell_nx pF (below_drew (Below.refl wr.heap.size wr))
      have BX2 : Below wr.heap.size wr wr.drew := below_drew (Below.refl _ _)
      rw [hWW] at MX xb0 xb1 xr0 xr1 pL pH pF BX2
      refine wp_region_held_drew (S := fun v => Below WX.heap.size WX v) (by kernel_rfl) (by rw [hWW]; exact Below.refl _ _) (fun hH => ?_)
      rw [hWW] at hH ⊢
      clear hWW
      by_cases g1 : fk < lk
      · have q1 : decide (fk < lk) = true := decide_eq_true g1
        have HFB := Hid.mk (HFk.out (fun h => by omega))
        refine wpAnyH_take (i := 0) (oi := { dst := some 27, op := Op.fieldAddr 35 (Operand.tmp 3) 0, type := 0, pos := "l18_rays.go:62", after := #[], guard := none }) (v := .pointer (some ⟨w.heap.size + 1, 0, none⟩)) rfl (by kernel_rfl) (by kernel_rfl) (by kernel_rfl) (fun _ _ _ h => h) (Or.inl ⟨by rfl, fun w0 hSw => by (go_simp)⟩) hH ?_
        simp only [Act.put, List.setIfInBounds_toArray, List.set_cons_zero, List.set_cons_succ]
        refine wpAnyH_take (i := 1) (oi := { dst := some 28, op := Op.load 22 (Operand.tmp 27), type := 22, pos := "l18_rays.go:62", after := #[{ on := 0, ground := Ground.data }], guard := none }) (v := .slice (some ⟨Fg, Fo, none⟩) 3 Fc) rfl (by kernel_rfl) (by kernel_rfl) (by kernel_rfl) (fun _ _ _ h => h) (Or.inl ⟨by rfl, fun w0 hSw => by ((have e9 := cell_nx xr0 hSw); go_simp)⟩) hH ?_
        simp only [Act.put, List.setIfInBounds_toArray, List.set_cons_zero, List.set_cons_succ]
        refine wpAnyH_take (i := 2) (oi := { dst := some 29, op := Op.move (Operand.tmp 9), type := 3, pos := "l18_rays.go:62", after := #[], guard := none }) (v := .int .i64 k) rfl (by kernel_rfl) (by kernel_rfl) (by kernel_rfl) (fun _ _ _ h => h) (Or.inl ⟨by rfl, fun w0 hSw => by (go_simp)⟩) hH ?_
        simp only [Act.put, List.setIfInBounds_toArray, List.set_cons_zero, List.set_cons_succ]
        refine wpAnyH_take (i := 3) (oi := { dst := some 30, op := Op.indexAddr 22 (Operand.tmp 28) (Operand.tmp 29), type := 0, pos := "l18_rays.go:62", after := #[{ on := 1, ground := Ground.data }, { on := 2, ground := Ground.data }], guard := none }) (v := .pointer (some ⟨Fg, Fo + k, none⟩)) rfl (by kernel_rfl) (by kernel_rfl) (by kernel_rfl) (fun _ _ _ h => h) (Or.inl ⟨by rfl, fun w0 hSw => by (go_simp)⟩) hH ?_
        simp only [Act.put, List.setIfInBounds_toArray, List.set_cons_zero, List.set_cons_succ]
        refine wpAnyH_take (i := 4) (oi := { dst := some 31, op := Op.load 3 (Operand.tmp 30), type := 3, pos := "l18_rays.go:62", after := #[{ on := 3, ground := Ground.data }], guard := none }) (v := .int .i64 fk) rfl (by kernel_rfl) (by kernel_rfl) (by kernel_rfl) (fun _ _ _ h => h) (Or.inl ⟨by rfl, fun w0 hSw => by ((have e9 := cell_nx pF hSw); go_simp)⟩) hH ?_
        simp only [Act.put, List.setIfInBounds_toArray, List.set_cons_zero, List.set_cons_succ]
        refine wpAnyH_take (i := 5) (oi := { dst := some 32, op := Op.fieldAddr 27 (Operand.tmp 2) 0, type := 0, pos := "l18_rays.go:62", after := #[], guard := none }) (v := .pointer (some ⟨w.heap.size, 0, none⟩)) rfl (by kernel_rfl) (by kernel_rfl) (by kernel_rfl) (fun _ _ _ h => h) (Or.inl ⟨by rfl, fun w0 hSw => by (go_simp)⟩) hH ?_
        simp only [Act.put, List.setIfInBounds_toArray, List.set_cons_zero, List.set_cons_succ]
        refine wpAnyH_take (i := 6) (oi := { dst := some 33, op := Op.load 22 (Operand.tmp 32), type := 22, pos := "l18_rays.go:62", after := #[{ on := 5, ground := Ground.data }], guard := none }) (v := .slice (some ⟨Lg, Lo, none⟩) 3 Lc) rfl (by kernel_rfl) (by kernel_rfl) (by kernel_rfl) (fun _ _ _ h => h) (Or.inl ⟨by rfl, fun w0 hSw => by ((have e9 := cell_nx xb0 hSw); go_simp)⟩) hH ?_
        simp only [Act.put, List.setIfInBounds_toArray, List.set_cons_zero, List.set_cons_succ]
        refine wpAnyH_take (i := 7) (oi := { dst := some 34, op := Op.move (Operand.tmp 9), type := 3, pos := "l18_rays.go:62", after := #[], guard := none }) (v := .int .i64 k) rfl (by kernel_rfl) (by kernel_rfl) (by kernel_rfl) (fun _ _ _ h => h) (Or.inl ⟨by rfl, fun w0 hSw => by (go_simp)⟩) hH ?_
        simp only [Act.put, List.setIfInBounds_toArray, List.set_cons_zero, List.set_cons_succ]
        refine wpAnyH_take (i := 8) (oi := { dst := some 35, op := Op.indexAddr 22 (Operand.tmp 33) (Operand.tmp 34), type := 0, pos := "l18_rays.go:62", after := #[{ on := 6, ground := Ground.data }, { on := 7, ground := Ground.data }], guard := none }) (v := .pointer (some ⟨Lg, Lo + k, none⟩)) rfl (by kernel_rfl) (by kernel_rfl) (by kernel_rfl) (fun _ _ _ h => h) (Or.inl ⟨by rfl, fun w0 hSw => by (go_simp)⟩) hH ?_
        simp only [Act.put, List.setIfInBounds_toArray, List.set_cons_zero, List.set_cons_succ]
        refine wpAnyH_take (i := 9) (oi := { dst := some 36, op := Op.load 3 (Operand.tmp 35), type := 3, pos := "l18_rays.go:62", after := #[{ on := 8, ground := Ground.data }], guard := none }) (v := .int .i64 lk) rfl (by kernel_rfl) (by kernel_rfl) (by kernel_rfl) (fun _ _ _ h => h) (Or.inl ⟨by rfl, fun w0 hSw => by ((have e9 := cell_nx pL hSw); go_simp)⟩) hH ?_
        simp only [Act.put, List.setIfInBounds_toArray, List.set_cons_zero, List.set_cons_succ]
        refine wpAnyH_take (i := 10) (oi := { dst := some 37, op := Op.binOp BinOp.lss 3 (Operand.tmp 31) (Operand.tmp 36) 3, type := 4, pos := "l18_rays.go:62", after := #[{ on := 4, ground := Ground.data }, { on := 9, ground := Ground.data }], guard := none }) (v := .bool true) rfl (by kernel_rfl) (by kernel_rfl) (by kernel_rfl) (fun _ _ _ h => h) (Or.inl ⟨by rfl, fun w0 hSw => by (go_simp)⟩) hH ?_
        simp only [Act.put, List.setIfInBounds_toArray, List.set_cons_zero, List.set_cons_succ]
        refine wpAnyH_take (i := 11) (oi := { dst := some 38, op := Op.move (Operand.tmp 37), type := 4, pos := "l18_rays.go:62", after := #[{ on := 10, ground := Ground.data }], guard := none }) (v := .bool true) rfl (by kernel_rfl) (by kernel_rfl) (by kernel_rfl) (fun _ _ _ h => h) (Or.inl ⟨by rfl, fun w0 hSw => by (go_simp)⟩) hH ?_
        simp only [Act.put, List.setIfInBounds_toArray, List.set_cons_zero, List.set_cons_succ]
        refine wpAnyH_take (i := 12) (oi := { dst := some 39, op := Op.fieldAddr 35 (Operand.tmp 3) 0, type := 0, pos := "l18_rays.go:62", after := #[{ on := 11, ground := Ground.guard }], guard := some (11, false) }) (v := undef) rfl (by kernel_rfl) (by kernel_rfl) (by kernel_rfl) (fun _ _ _ h => h) (Or.inr ⟨by rfl, rfl⟩) hH ?_
        simp only [Act.put, List.setIfInBounds_toArray, List.set_cons_zero, List.set_cons_succ]
        refine wpAnyH_take (i := 13) (oi := { dst := some 40, op := Op.load 22 (Operand.tmp 39), type := 22, pos := "l18_rays.go:62", after := #[{ on := 12, ground := Ground.data }, { on := 11, ground := Ground.guard }], guard := some (11, false) }) (v := undef) rfl (by kernel_rfl) (by kernel_rfl) (by kernel_rfl) (fun _ _ _ h => h) (Or.inr ⟨by rfl, rfl⟩) hH ?_
        simp only [Act.put, List.setIfInBounds_toArray, List.set_cons_zero, List.set_cons_succ]
        refine wpAnyH_take (i := 14) (oi := { dst := some 41, op := Op.move (Operand.tmp 9), type := 3, pos := "l18_rays.go:62", after := #[{ on := 11, ground := Ground.guard }], guard := some (11, false) }) (v := undef) rfl (by kernel_rfl) (by kernel_rfl) (by kernel_rfl) (fun _ _ _ h => h) (Or.inr ⟨by rfl, rfl⟩) hH ?_
        simp only [Act.put, List.setIfInBounds_toArray, List.set_cons_zero, List.set_cons_succ]
        refine wpAnyH_take (i := 15) (oi := { dst := some 42, op := Op.indexAddr 22 (Operand.tmp 40) (Operand.tmp 41), type := 0, pos := "l18_rays.go:62", after := #[{ on := 13, ground := Ground.data }, { on := 14, ground := Ground.data }, { on := 11, ground := Ground.guard }], guard := some (11, false) }) (v := undef) rfl (by kernel_rfl) (by kernel_rfl) (by kernel_rfl) (fun _ _ _ h => h) (Or.inr ⟨by rfl, rfl⟩) hH ?_
        simp only [Act.put, List.setIfInBounds_toArray, List.set_cons_zero, List.set_cons_succ]
        refine wpAnyH_take (i := 16) (oi := { dst := some 43, op := Op.load 3 (Operand.tmp 42), type := 3, pos := "l18_rays.go:62", after := #[{ on := 15, ground := Ground.data }, { on := 11, ground := Ground.guard }], guard := some (11, false) }) (v := undef) rfl (by kernel_rfl) (by kernel_rfl) (by kernel_rfl) (fun _ _ _ h => h) (Or.inr ⟨by rfl, rfl⟩) hH ?_
        simp only [Act.put, List.setIfInBounds_toArray, List.set_cons_zero, List.set_cons_succ]
        refine wpAnyH_take (i := 17) (oi := { dst := some 44, op := Op.fieldAddr 27 (Operand.tmp 2) 1, type := 0, pos := "l18_rays.go:62", after := #[{ on := 11, ground := Ground.guard }], guard := some (11, false) }) (v := undef) rfl (by kernel_rfl) (by kernel_rfl) (by kernel_rfl) (fun _ _ _ h => h) (Or.inr ⟨by rfl, rfl⟩) hH ?_
        simp only [Act.put, List.setIfInBounds_toArray, List.set_cons_zero, List.set_cons_succ]
        refine wpAnyH_take (i := 18) (oi := { dst := some 45, op := Op.load 22 (Operand.tmp 44), type := 22, pos := "l18_rays.go:62", after := #[{ on := 17, ground := Ground.data }, { on := 11, ground := Ground.guard }], guard := some (11, false) }) (v := undef) rfl (by kernel_rfl) (by kernel_rfl) (by kernel_rfl) (fun _ _ _ h => h) (Or.inr ⟨by rfl, rfl⟩) hH ?_
        simp only [Act.put, List.setIfInBounds_toArray, List.set_cons_zero, List.set_cons_succ]
        refine wpAnyH_take (i := 19) (oi := { dst := some 46, op := Op.move (Operand.tmp 9), type := 3, pos := "l18_rays.go:62", after := #[{ on := 11, ground := Ground.guard }], guard := some (11, false) }) (v := undef) rfl (by kernel_rfl) (by kernel_rfl) (by kernel_rfl) (fun _ _ _ h => h) (Or.inr ⟨by rfl, rfl⟩) hH ?_
        simp only [Act.put, List.setIfInBounds_toArray, List.set_cons_zero, List.set_cons_succ]
        refine wpAnyH_take (i := 20) (oi := { dst := some 47, op := Op.indexAddr 22 (Operand.tmp 45) (Operand.tmp 46), type := 0, pos := "l18_rays.go:62", after := #[{ on := 18, ground := Ground.data }, { on := 19, ground := Ground.data }, { on := 11, ground := Ground.guard }], guard := some (11, false) }) (v := undef) rfl (by kernel_rfl) (by kernel_rfl) (by kernel_rfl) (fun _ _ _ h => h) (Or.inr ⟨by rfl, rfl⟩) hH ?_
        simp only [Act.put, List.setIfInBounds_toArray, List.set_cons_zero, List.set_cons_succ]
        refine wpAnyH_take (i := 21) (oi := { dst := some 48, op := Op.load 3 (Operand.tmp 47), type := 3, pos := "l18_rays.go:62", after := #[{ on := 20, ground := Ground.data }, { on := 11, ground := Ground.guard }], guard := some (11, false) }) (v := undef) rfl (by kernel_rfl) (by kernel_rfl) (by kernel_rfl) (fun _ _ _ h => h) (Or.inr ⟨by rfl, rfl⟩) hH ?_
        simp only [Act.put, List.setIfInBounds_toArray, List.set_cons_zero, List.set_cons_succ]
        refine wpAnyH_take (i := 22) (oi := { dst := some 49, op := Op.binOp BinOp.gtr 3 (Operand.tmp 43) (Operand.tmp 48) 3, type := 4, pos := "l18_rays.go:62", after := #[{ on := 16, ground := Ground.data }, { on := 21, ground := Ground.data }, { on := 11, ground := Ground.guard }], guard := some (11, false) }) (v := undef) rfl (by kernel_rfl) (by kernel_rfl) (by kernel_rfl) (fun _ _ _ h => h) (Or.inr ⟨by rfl, rfl⟩) hH ?_
        simp only [Act.put, List.setIfInBounds_toArray, List.set_cons_zero, List.set_cons_succ]
        refine wpAnyH_take (i := 23) (oi := { dst := some 50, op := Op.pick (Operand.tmp 38) (Operand.const (Value.bool true)) (Operand.tmp 49), type := 4, pos := "l18_rays.go:62", after := #[{ on := 11, ground := Ground.data }, { on := 22, ground := Ground.data }], guard := none }) (v := .bool true) rfl (by kernel_rfl) (by kernel_rfl) (by kernel_rfl) (fun _ _ _ h => h) (Or.inl ⟨by rfl, fun w0 hSw => by (go_simp)⟩) hH ?_
        simp only [Act.put, List.setIfInBounds_toArray, List.set_cons_zero, List.set_cons_succ]
        refine wpAnyH_done (by kernel_rfl) ?_ _
        have MZ := (MX.out.next hH).z
        have z0 := MZ.c0
        have z1 := MZ.c1
        have zf := MZ.f
        have y0 := ((MZ.s0 (.int .i64 0)).s1 (.int .i64 0)).c0
        have y1 := ((MZ.s0 (.int .i64 0)).s1 (.int .i64 0)).c1
        have BE := (MX.out.next hH).w
        clear MZ
        go_wp2
        exact bodyPost_ret (v := .tuple #[.agg #[.int .i64 0, .int .i64 0], .bool false]) (by simp [results, Try.results54, go_sem, y0, y1]) rfl ⟨0, 0, by rw [HFB.out], (fun h => by rw [HFB.out] at h; cases h), (BE.setCell (p := ⟨w.heap.size + 1 + 1, 0, none⟩) (by simp; omega) _).setCell (p := ⟨w.heap.size + 1 + 1, 1, none⟩) (by simp; omega) _⟩
      have q1 : decide (fk < lk) = false := decide_eq_false g1
      by_cases g2 : hk1 < fk
      · have q2 : decide (hk1 < fk) = true := decide_eq_true g2
        have HFB := Hid.mk (HFk.out (fun h => by omega))
        refine wpAnyH_take (i := 0) (oi := { dst := some 27, op := Op.fieldAddr 35 (Operand.tmp 3) 0, type := 0, pos := "l18_rays.go:62", after := #[], guard := none }) (v := .pointer (some ⟨w.heap.size + 1, 0, none⟩)) rfl (by kernel_rfl) (by kernel_rfl) (by kernel_rfl) (fun _ _ _ h => h) (Or.inl ⟨by rfl, fun w0 hSw => by (go_simp)⟩) hH ?_
        simp only [Act.put, List.setIfInBounds_toArray, List.set_cons_zero, List.set_cons_succ]
        refine wpAnyH_take (i := 1) (oi := { dst := some 28, op := Op.load 22 (Operand.tmp 27), type := 22, pos := "l18_rays.go:62", after := #[{ on := 0, ground := Ground.data }], guard := none }) (v := .slice (some ⟨Fg, Fo, none⟩) 3 Fc) rfl (by kernel_rfl) (by kernel_rfl) (by kernel_rfl) (fun _ _ _ h => h) (Or.inl ⟨by rfl, fun w0 hSw => by ((have e9 := cell_nx xr0 hSw); go_simp)⟩) hH ?_
        simp only [Act.put, List.setIfInBounds_toArray, List.set_cons_zero, List.set_cons_succ]
        refine wpAnyH_take (i := 2) (oi := { dst := some 29, op := Op.move (Operand.tmp 9), type := 3, pos := "l18_rays.go:62", after := #[], guard := none }) (v := .int .i64 k) rfl (by kernel_rfl) (by kernel_rfl) (by kernel_rfl) (fun _ _ _ h => h) (Or.inl ⟨by rfl, fun w0 hSw => by (go_simp)⟩) hH ?_
        simp only [Act.put, List.setIfInBounds_toArray, List.set_cons_zero, List.set_cons_succ]
        refine wpAnyH_take (i := 3) (oi := { dst := some 30, op := Op.indexAddr 22 (Operand.tmp 28) (Operand.tmp 29), type := 0, pos := "l18_rays.go:62", after := #[{ on := 1, ground := Ground.data }, { on := 2, ground := Ground.data }], guard := none }) (v := .pointer (some ⟨Fg, Fo + k, none⟩)) rfl (by kernel_rfl) (by kernel_rfl) (by kernel_rfl) (fun _ _ _ h => h) (Or.inl ⟨by rfl, fun w0 hSw => by (go_simp)⟩) hH ?_
        simp only [Act.put, List.setIfInBounds_toArray, List.set_cons_zero, List.set_cons_succ]
        refine wpAnyH_take (i := 4) (oi := { dst := some 31, op := Op.load 3 (Operand.tmp 30), type := 3, pos := "l18_rays.go:62", after := #[{ on := 3, ground := Ground.data }], guard := none }) (v := .int .i64 fk) rfl (by kernel_rfl) (by kernel_rfl) (by kernel_rfl) (fun _ _ _ h => h) (Or.inl ⟨by rfl, fun w0 hSw => by ((have e9 := cell_nx pF hSw); go_simp)⟩) hH ?_
        simp only [Act.put, List.setIfInBounds_toArray, List.set_cons_zero, List.set_cons_succ]
        refine wpAnyH_take (i := 5) (oi := { dst := some 32, op := Op.fieldAddr 27 (Operand.tmp 2) 0, type := 0, pos := "l18_rays.go:62", after := #[], guard := none }) (v := .pointer (some ⟨w.heap.size, 0, none⟩)) rfl (by kernel_rfl) (by kernel_rfl) (by kernel_rfl) (fun _ _ _ h => h) (Or.inl ⟨by rfl, fun w0 hSw => by (go_simp)⟩) hH ?_
        simp only [Act.put, List.setIfInBounds_toArray, List.set_cons_zero, List.set_cons_succ]
        refine wpAnyH_take (i := 6) (oi := { dst := some 33, op := Op.load 22 (Operand.tmp 32), type := 22, pos := "l18_rays.go:62", after := #[{ on := 5, ground := Ground.data }], guard := none }) (v := .slice (some ⟨Lg, Lo, none⟩) 3 Lc) rfl (by kernel_rfl) (by kernel_rfl) (by kernel_rfl) (fun _ _ _ h => h) (Or.inl ⟨by rfl, fun w0 hSw => by ((have e9 := cell_nx xb0 hSw); go_simp)⟩) hH ?_
        simp only [Act.put, List.setIfInBounds_toArray, List.set_cons_zero, List.set_cons_succ]
        refine wpAnyH_take (i := 7) (oi := { dst := some 34, op := Op.move (Operand.tmp 9), type := 3, pos := "l18_rays.go:62", after := #[], guard := none }) (v := .int .i64 k) rfl (by kernel_rfl) (by kernel_rfl) (by kernel_rfl) (fun _ _ _ h => h) (Or.inl ⟨by rfl, fun w0 hSw => by (go_simp)⟩) hH ?_
        simp only [Act.put, List.setIfInBounds_toArray, List.set_cons_zero, List.set_cons_succ]
        refine wpAnyH_take (i := 8) (oi := { dst := some 35, op := Op.indexAddr 22 (Operand.tmp 33) (Operand.tmp 34), type := 0, pos := "l18_rays.go:62", after := #[{ on := 6, ground := Ground.data }, { on := 7, ground := Ground.data }], guard := none }) (v := .pointer (some ⟨Lg, Lo + k, none⟩)) rfl (by kernel_rfl) (by kernel_rfl) (by kernel_rfl) (fun _ _ _ h => h) (Or.inl ⟨by rfl, fun w0 hSw => by (go_simp)⟩) hH ?_
        simp only [Act.put, List.setIfInBounds_toArray, List.set_cons_zero, List.set_cons_succ]
        refine wpAnyH_take (i := 9) (oi := { dst := some 36, op := Op.load 3 (Operand.tmp 35), type := 3, pos := "l18_rays.go:62", after := #[{ on := 8, ground := Ground.data }], guard := none }) (v := .int .i64 lk) rfl (by kernel_rfl) (by kernel_rfl) (by kernel_rfl) (fun _ _ _ h => h) (Or.inl ⟨by rfl, fun w0 hSw => by ((have e9 := cell_nx pL hSw); go_simp)⟩) hH ?_
        simp only [Act.put, List.setIfInBounds_toArray, List.set_cons_zero, List.set_cons_succ]
        refine wpAnyH_take (i := 10) (oi := { dst := some 37, op := Op.binOp BinOp.lss 3 (Operand.tmp 31) (Operand.tmp 36) 3, type := 4, pos := "l18_rays.go:62", after := #[{ on := 4, ground := Ground.data }, { on := 9, ground := Ground.data }], guard := none }) (v := .bool false) rfl (by kernel_rfl) (by kernel_rfl) (by kernel_rfl) (fun _ _ _ h => h) (Or.inl ⟨by rfl, fun w0 hSw => by (go_simp)⟩) hH ?_
        simp only [Act.put, List.setIfInBounds_toArray, List.set_cons_zero, List.set_cons_succ]
        refine wpAnyH_take (i := 11) (oi := { dst := some 38, op := Op.move (Operand.tmp 37), type := 4, pos := "l18_rays.go:62", after := #[{ on := 10, ground := Ground.data }], guard := none }) (v := .bool false) rfl (by kernel_rfl) (by kernel_rfl) (by kernel_rfl) (fun _ _ _ h => h) (Or.inl ⟨by rfl, fun w0 hSw => by (go_simp)⟩) hH ?_
        simp only [Act.put, List.setIfInBounds_toArray, List.set_cons_zero, List.set_cons_succ]
        refine wpAnyH_take (i := 12) (oi := { dst := some 39, op := Op.fieldAddr 35 (Operand.tmp 3) 0, type := 0, pos := "l18_rays.go:62", after := #[{ on := 11, ground := Ground.guard }], guard := some (11, false) }) (v := .pointer (some ⟨w.heap.size + 1, 0, none⟩)) rfl (by kernel_rfl) (by kernel_rfl) (by kernel_rfl) (fun _ _ _ h => h) (Or.inl ⟨by rfl, fun w0 hSw => by (go_simp)⟩) hH ?_
        simp only [Act.put, List.setIfInBounds_toArray, List.set_cons_zero, List.set_cons_succ]
        refine wpAnyH_take (i := 13) (oi := { dst := some 40, op := Op.load 22 (Operand.tmp 39), type := 22, pos := "l18_rays.go:62", after := #[{ on := 12, ground := Ground.data }, { on := 11, ground := Ground.guard }], guard := some (11, false) }) (v := .slice (some ⟨Fg, Fo, none⟩) 3 Fc) rfl (by kernel_rfl) (by kernel_rfl) (by kernel_rfl) (fun _ _ _ h => h) (Or.inl ⟨by rfl, fun w0 hSw => by ((have e9 := cell_nx xr0 hSw); go_simp)⟩) hH ?_
        simp only [Act.put, List.setIfInBounds_toArray, List.set_cons_zero, List.set_cons_succ]
        refine wpAnyH_take (i := 14) (oi := { dst := some 41, op := Op.move (Operand.tmp 9), type := 3, pos := "l18_rays.go:62", after := #[{ on := 11, ground := Ground.guard }], guard := some (11, false) }) (v := .int .i64 k) rfl (by kernel_rfl) (by kernel_rfl) (by kernel_rfl) (fun _ _ _ h => h) (Or.inl ⟨by rfl, fun w0 hSw => by (go_simp)⟩) hH ?_
        simp only [Act.put, List.setIfInBounds_toArray, List.set_cons_zero, List.set_cons_succ]
        refine wpAnyH_take (i := 15) (oi := { dst := some 42, op := Op.indexAddr 22 (Operand.tmp 40) (Operand.tmp 41), type := 0, pos := "l18_rays.go:62", after := #[{ on := 13, ground := Ground.data }, { on := 14, ground := Ground.data }, { on := 11, ground := Ground.guard }], guard := some (11, false) }) (v := .pointer (some ⟨Fg, Fo + k, none⟩)) rfl (by kernel_rfl) (by kernel_rfl) (by kernel_rfl) (fun _ _ _ h => h) (Or.inl ⟨by rfl, fun w0 hSw => by (go_simp)⟩) hH ?_
        simp only [Act.put, List.setIfInBounds_toArray, List.set_cons_zero, List.set_cons_succ]
        refine wpAnyH_take (i := 16) (oi := { dst := some 43, op := Op.load 3 (Operand.tmp 42), type := 3, pos := "l18_rays.go:62", after := #[{ on := 15, ground := Ground.data }, { on := 11, ground := Ground.guard }], guard := some (11, false) }) (v := .int .i64 fk) rfl (by kernel_rfl) (by kernel_rfl) (by kernel_rfl) (fun _ _ _ h => h) (Or.inl ⟨by rfl, fun w0 hSw => by ((have e9 := cell_nx pF hSw); go_simp)⟩) hH ?_
        simp only [Act.put, List.setIfInBounds_toArray, List.set_cons_zero, List.set_cons_succ]
        refine wpAnyH_take (i := 17) (oi := { dst := some 44, op := Op.fieldAddr 27 (Operand.tmp 2) 1, type := 0, pos := "l18_rays.go:62", after := #[{ on := 11, ground := Ground.guard }], guard := some (11, false) }) (v := .pointer (some ⟨w.heap.size, 1, none⟩)) rfl (by kernel_rfl) (by kernel_rfl) (by kernel_rfl) (fun _ _ _ h => h) (Or.inl ⟨by rfl, fun w0 hSw => by (go_simp)⟩) hH ?_
        simp only [Act.put, List.setIfInBounds_toArray, List.set_cons_zero, List.set_cons_succ]
        refine wpAnyH_take (i := 18) (oi := { dst := some 45, op := Op.load 22 (Operand.tmp 44), type := 22, pos := "l18_rays.go:62", after := #[{ on := 17, ground := Ground.data }, { on := 11, ground := Ground.guard }], guard := some (11, false) }) (v := .slice (some ⟨Hg, Ho, none⟩) 3 Hc) rfl (by kernel_rfl) (by kernel_rfl) (by kernel_rfl) (fun _ _ _ h => h) (Or.inl ⟨by rfl, fun w0 hSw => by ((have e9 := cell_nx xb1 hSw); go_simp)⟩) hH ?_
        simp only [Act.put, List.setIfInBounds_toArray, List.set_cons_zero, List.set_cons_succ]
        refine wpAnyH_take (i := 19) (oi := { dst := some 46, op := Op.move (Operand.tmp 9), type := 3, pos := "l18_rays.go:62", after := #[{ on := 11, ground := Ground.guard }], guard := some (11, false) }) (v := .int .i64 k) rfl (by kernel_rfl) (by kernel_rfl) (by kernel_rfl) (fun _ _ _ h => h) (Or.inl ⟨by rfl, fun w0 hSw => by (go_simp)⟩) hH ?_
        simp only [Act.put, List.setIfInBounds_toArray, List.set_cons_zero, List.set_cons_succ]
        refine wpAnyH_take (i := 20) (oi := { dst := some 47, op := Op.indexAddr 22 (Operand.tmp 45) (Operand.tmp 46), type := 0, pos := "l18_rays.go:62", after := #[{ on := 18, ground := Ground.data }, { on := 19, ground := Ground.data }, { on := 11, ground := Ground.guard }], guard := some (11, false) }) (v := .pointer (some ⟨Hg, Ho + k, none⟩)) rfl (by kernel_rfl) (by kernel_rfl) (by kernel_rfl) (fun _ _ _ h => h) (Or.inl ⟨by rfl, fun w0 hSw => by (go_simp)⟩) hH ?_
        simp only [Act.put, List.setIfInBounds_toArray, List.set_cons_zero, List.set_cons_succ]
        refine wpAnyH_take (i := 21) (oi := { dst := some 48, op := Op.load 3 (Operand.tmp 47), type := 3, pos := "l18_rays.go:62", after := #[{ on := 20, ground := Ground.data }, { on := 11, ground := Ground.guard }], guard := some (11, false) }) (v := .int .i64 hk1) rfl (by kernel_rfl) (by kernel_rfl) (by kernel_rfl) (fun _ _ _ h => h) (Or.inl ⟨by rfl, fun w0 hSw => by ((have e9 := cell_nx pH hSw); go_simp)⟩) hH ?_
        simp only [Act.put, List.setIfInBounds_toArray, List.set_cons_zero, List.set_cons_succ]
        refine wpAnyH_take (i := 22) (oi := { dst := some 49, op := Op.binOp BinOp.gtr 3 (Operand.tmp 43) (Operand.tmp 48) 3, type := 4, pos := "l18_rays.go:62", after := #[{ on := 16, ground := Ground.data }, { on := 21, ground := Ground.data }, { on := 11, ground := Ground.guard }], guard := some (11, false) }) (v := .bool true) rfl (by kernel_rfl) (by kernel_rfl) (by kernel_rfl) (fun _ _ _ h => h) (Or.inl ⟨by rfl, fun w0 hSw => by (go_simp)⟩) hH ?_
        simp only [Act.put, List.setIfInBounds_toArray, List.set_cons_zero, List.set_cons_succ]
        refine wpAnyH_take (i := 23) (oi := { dst := some 50, op := Op.pick (Operand.tmp 38) (Operand.const (Value.bool true)) (Operand.tmp 49), type := 4, pos := "l18_rays.go:62", after := #[{ on := 11, ground := Ground.data }, { on := 22, ground := Ground.data }], guard := none }) (v := .bool true) rfl (by kernel_rfl) (by kernel_rfl) (by kernel_rfl) (fun _ _ _ h => h) (Or.inl ⟨by rfl, fun w0 hSw => by (go_simp)⟩) hH ?_
        simp only [Act.put, List.setIfInBounds_toArray, List.set_cons_zero, List.set_cons_succ]
        refine wpAnyH_done (by kernel_rfl) ?_ _
        have MZ := (MX.out.next hH).z
        have z0 := MZ.c0
        have z1 := MZ.c1
        have zf := MZ.f
        have y0 := ((MZ.s0 (.int .i64 0)).s1 (.int .i64 0)).c0
        have y1 := ((MZ.s0 (.int .i64 0)).s1 (.int .i64 0)).c1
        have BE := (MX.out.next hH).w
        clear MZ
        go_wp2
        exact bodyPost_ret (v := .tuple #[.agg #[.int .i64 0, .int .i64 0], .bool false]) (by simp [results, Try.results54, go_sem, y0, y1]) rfl ⟨0, 0, by rw [HFB.out], (fun h => by rw [HFB.out] at h; cases h), (BE.setCell (p := ⟨w.heap.size + 1 + 1, 0, none⟩) (by simp; omega) _).setCell (p := ⟨w.heap.size + 1 + 1, 1, none⟩) (by simp; omega) _⟩
      have q2 : decide (hk1 < fk) = false := decide_eq_false g2
      have HWN := Hid.mk (HWk.out ⟨by omega, by omega⟩)
      refine wpAnyH_take (i := 0) (oi := { dst := some 27, op := Op.fieldAddr 35 (Operand.tmp 3) 0, type := 0, pos := "l18_rays.go:62", after := #[], guard := none }) (v := .pointer (some ⟨w.heap.size + 1, 0, none⟩)) rfl (by kernel_rfl) (by kernel_rfl) (by kernel_rfl) (fun _ _ _ h => h) (Or.inl ⟨by rfl, fun w0 hSw => by (go_simp)⟩) hH ?_
      simp only [Act.put, List.setIfInBounds_toArray, List.set_cons_zero, List.set_cons_succ]
      refine wpAnyH_take (i := 1) (oi := { dst := some 28, op := Op.load 22 (Operand.tmp 27), type := 22, pos := "l18_rays.go:62", after := #[{ on := 0, ground := Ground.data }], guard := none }) (v := .slice (some ⟨Fg, Fo, none⟩) 3 Fc) rfl (by kernel_rfl) (by kernel_rfl) (by kernel_rfl) (fun _ _ _ h => h) (Or.inl ⟨by rfl, fun w0 hSw => by ((have e9 := cell_nx xr0 hSw); go_simp)⟩) hH ?_
      simp only [Act.put, List.setIfInBounds_toArray, List.set_cons_zero, List.set_cons_succ]
      refine wpAnyH_take (i := 2) (oi := { dst := some 29, op := Op.move (Operand.tmp 9), type := 3, pos := "l18_rays.go:62", after := #[], guard := none }) (v := .int .i64 k) rfl (by kernel_rfl) (by kernel_rfl) (by kernel_rfl) (fun _ _ _ h => h) (Or.inl ⟨by rfl, fun w0 hSw => by (go_simp)⟩) hH ?_
      simp only [Act.put, List.setIfInBounds_toArray, List.set_cons_zero, List.set_cons_succ]
      refine wpAnyH_take (i := 3) (oi := { dst := some 30, op := Op.indexAddr 22 (Operand.tmp 28) (Operand.tmp 29), type := 0, pos := "l18_rays.go:62", after := #[{ on := 1, ground := Ground.data }, { on := 2, ground := Ground.data }], guard := none }) (v := .pointer (some ⟨Fg, Fo + k, none⟩)) rfl (by kernel_rfl) (by kernel_rfl) (by kernel_rfl) (fun _ _ _ h => h) (Or.inl ⟨by rfl, fun w0 hSw => by (go_simp)⟩) hH ?_
      simp only [Act.put, List.setIfInBounds_toArray, List.set_cons_zero, List.set_cons_succ]
      refine wpAnyH_take (i := 4) (oi := { dst := some 31, op := Op.load 3 (Operand.tmp 30), type := 3, pos := "l18_rays.go:62", after := #[{ on := 3, ground := Ground.data }], guard := none }) (v := .int .i64 fk) rfl (by kernel_rfl) (by kernel_rfl) (by kernel_rfl) (fun _ _ _ h => h) (Or.inl ⟨by rfl, fun w0 hSw => by ((have e9 := cell_nx pF hSw); go_simp)⟩) hH ?_
      simp only [Act.put, List.setIfInBounds_toArray, List.set_cons_zero, List.set_cons_succ]
      refine wpAnyH_take (i := 5) (oi := { dst := some 32, op := Op.fieldAddr 27 (Operand.tmp 2) 0, type := 0, pos := "l18_rays.go:62", after := #[], guard := none }) (v := .pointer (some ⟨w.heap.size, 0, none⟩)) rfl (by kernel_rfl) (by kernel_rfl) (by kernel_rfl) (fun _ _ _ h => h) (Or.inl ⟨by rfl, fun w0 hSw => by (go_simp)⟩) hH ?_
      simp only [Act.put, List.setIfInBounds_toArray, List.set_cons_zero, List.set_cons_succ]
      refine wpAnyH_take (i := 6) (oi := { dst := some 33, op := Op.load 22 (Operand.tmp 32), type := 22, pos := "l18_rays.go:62", after := #[{ on := 5, ground := Ground.data }], guard := none }) (v := .slice (some ⟨Lg, Lo, none⟩) 3 Lc) rfl (by kernel_rfl) (by kernel_rfl) (by kernel_rfl) (fun _ _ _ h => h) (Or.inl ⟨by rfl, fun w0 hSw => by ((have e9 := cell_nx xb0 hSw); go_simp)⟩) hH ?_
      simp only [Act.put, List.setIfInBounds_toArray, List.set_cons_zero, List.set_cons_succ]
      refine wpAnyH_take (i := 7) (oi := { dst := some 34, op := Op.move (Operand.tmp 9), type := 3, pos := "l18_rays.go:62", after := #[], guard := none }) (v := .int .i64 k) rfl (by kernel_rfl) (by kernel_rfl) (by kernel_rfl) (fun _ _ _ h => h) (Or.inl ⟨by rfl, fun w0 hSw => by (go_simp)⟩) hH ?_
      simp only [Act.put, List.setIfInBounds_toArray, List.set_cons_zero, List.set_cons_succ]
      refine wpAnyH_take (i := 8) (oi := { dst := some 35, op := Op.indexAddr 22 (Operand.tmp 33) (Operand.tmp 34), type := 0, pos := "l18_rays.go:62", after := #[{ on := 6, ground := Ground.data }, { on := 7, ground := Ground.data }], guard := none }) (v := .pointer (some ⟨Lg, Lo + k, none⟩)) rfl (by kernel_rfl) (by kernel_rfl) (by kernel_rfl) (fun _ _ _ h => h) (Or.inl ⟨by rfl, fun w0 hSw => by (go_simp)⟩) hH ?_
      simp only [Act.put, List.setIfInBounds_toArray, List.set_cons_zero, List.set_cons_succ]
      refine wpAnyH_take (i := 9) (oi := { dst := some 36, op := Op.load 3 (Operand.tmp 35), type := 3, pos := "l18_rays.go:62", after := #[{ on := 8, ground := Ground.data }], guard := none }) (v := .int .i64 lk) rfl (by kernel_rfl) (by kernel_rfl) (by kernel_rfl) (fun _ _ _ h => h) (Or.inl ⟨by rfl, fun w0 hSw => by ((have e9 := cell_nx pL hSw); go_simp)⟩) hH ?_
      simp only [Act.put, List.setIfInBounds_toArray, List.set_cons_zero, List.set_cons_succ]
      refine wpAnyH_take (i := 10) (oi := { dst := some 37, op := Op.binOp BinOp.lss 3 (Operand.tmp 31) (Operand.tmp 36) 3, type := 4, pos := "l18_rays.go:62", after := #[{ on := 4, ground := Ground.data }, { on := 9, ground := Ground.data }], guard := none }) (v := .bool false) rfl (by kernel_rfl) (by kernel_rfl) (by kernel_rfl) (fun _ _ _ h => h) (Or.inl ⟨by rfl, fun w0 hSw => by (go_simp)⟩) hH ?_
      simp only [Act.put, List.setIfInBounds_toArray, List.set_cons_zero, List.set_cons_succ]
      refine wpAnyH_take (i := 11) (oi := { dst := some 38, op := Op.move (Operand.tmp 37), type := 4, pos := "l18_rays.go:62", after := #[{ on := 10, ground := Ground.data }], guard := none }) (v := .bool false) rfl (by kernel_rfl) (by kernel_rfl) (by kernel_rfl) (fun _ _ _ h => h) (Or.inl ⟨by rfl, fun w0 hSw => by (go_simp)⟩) hH ?_
      simp only [Act.put, List.setIfInBounds_toArray, List.set_cons_zero, List.set_cons_succ]
      refine wpAnyH_take (i := 12) (oi := { dst := some 39, op := Op.fieldAddr 35 (Operand.tmp 3) 0, type := 0, pos := "l18_rays.go:62", after := #[{ on := 11, ground := Ground.guard }], guard := some (11, false) }) (v := .pointer (some ⟨w.heap.size + 1, 0, none⟩)) rfl (by kernel_rfl) (by kernel_rfl) (by kernel_rfl) (fun _ _ _ h => h) (Or.inl ⟨by rfl, fun w0 hSw => by (go_simp)⟩) hH ?_
      simp only [Act.put, List.setIfInBounds_toArray, List.set_cons_zero, List.set_cons_succ]
      refine wpAnyH_take (i := 13) (oi := { dst := some 40, op := Op.load 22 (Operand.tmp 39), type := 22, pos := "l18_rays.go:62", after := #[{ on := 12, ground := Ground.data }, { on := 11, ground := Ground.guard }], guard := some (11, false) }) (v := .slice (some ⟨Fg, Fo, none⟩) 3 Fc) rfl (by kernel_rfl) (by kernel_rfl) (by kernel_rfl) (fun _ _ _ h => h) (Or.inl ⟨by rfl, fun w0 hSw => by ((have e9 := cell_nx xr0 hSw); go_simp)⟩) hH ?_
      simp only [Act.put, List.setIfInBounds_toArray, List.set_cons_zero, List.set_cons_succ]
      refine wpAnyH_take (i := 14) (oi := { dst := some 41, op := Op.move (Operand.tmp 9), type := 3, pos := "l18_rays.go:62", after := #[{ on := 11, ground := Ground.guard }], guard := some (11, false) }) (v := .int .i64 k) rfl (by kernel_rfl) (by kernel_rfl) (by kernel_rfl) (fun _ _ _ h => h) (Or.inl ⟨by rfl, fun w0 hSw => by (go_simp)⟩) hH ?_
      simp only [Act.put, List.setIfInBounds_toArray, List.set_cons_zero, List.set_cons_succ]
      refine wpAnyH_take (i := 15) (oi := { dst := some 42, op := Op.indexAddr 22 (Operand.tmp 40) (Operand.tmp 41), type := 0, pos := "l18_rays.go:62", after := #[{ on := 13, ground := Ground.data }, { on := 14, ground := Ground.data }, { on := 11, ground := Ground.guard }], guard := some (11, false) }) (v := .pointer (some ⟨Fg, Fo + k, none⟩)) rfl (by kernel_rfl) (by kernel_rfl) (by kernel_rfl) (fun _ _ _ h => h) (Or.inl ⟨by rfl, fun w0 hSw => by (go_simp)⟩) hH ?_
      simp only [Act.put, List.setIfInBounds_toArray, List.set_cons_zero, List.set_cons_succ]
      refine wpAnyH_take (i := 16) (oi := { dst := some 43, op := Op.load 3 (Operand.tmp 42), type := 3, pos := "l18_rays.go:62", after := #[{ on := 15, ground := Ground.data }, { on := 11, ground := Ground.guard }], guard := some (11, false) }) (v := .int .i64 fk) rfl (by kernel_rfl) (by kernel_rfl) (by kernel_rfl) (fun _ _ _ h => h) (Or.inl ⟨by rfl, fun w0 hSw => by ((have e9 := cell_nx pF hSw); go_simp)⟩) hH ?_
      simp only [Act.put, List.setIfInBounds_toArray, List.set_cons_zero, List.set_cons_succ]
      refine wpAnyH_take (i := 17) (oi := { dst := some 44, op := Op.fieldAddr 27 (Operand.tmp 2) 1, type := 0, pos := "l18_rays.go:62", after := #[{ on := 11, ground := Ground.guard }], guard := some (11, false) }) (v := .pointer (some ⟨w.heap.size, 1, none⟩)) rfl (by kernel_rfl) (by kernel_rfl) (by kernel_rfl) (fun _ _ _ h => h) (Or.inl ⟨by rfl, fun w0 hSw => by (go_simp)⟩) hH ?_
      simp only [Act.put, List.setIfInBounds_toArray, List.set_cons_zero, List.set_cons_succ]
      refine wpAnyH_take (i := 18) (oi := { dst := some 45, op := Op.load 22 (Operand.tmp 44), type := 22, pos := "l18_rays.go:62", after := #[{ on := 17, ground := Ground.data }, { on := 11, ground := Ground.guard }], guard := some (11, false) }) (v := .slice (some ⟨Hg, Ho, none⟩) 3 Hc) rfl (by kernel_rfl) (by kernel_rfl) (by kernel_rfl) (fun _ _ _ h => h) (Or.inl ⟨by rfl, fun w0 hSw => by ((have e9 := cell_nx xb1 hSw); go_simp)⟩) hH ?_
      simp only [Act.put, List.setIfInBounds_toArray, List.set_cons_zero, List.set_cons_succ]
      refine wpAnyH_take (i := 19) (oi := { dst := some 46, op := Op.move (Operand.tmp 9), type := 3, pos := "l18_rays.go:62", after := #[{ on := 11, ground := Ground.guard }], guard := some (11, false) }) (v := .int .i64 k) rfl (by kernel_rfl) (by kernel_rfl) (by kernel_rfl) (fun _ _ _ h => h) (Or.inl ⟨by rfl, fun w0 hSw => by (go_simp)⟩) hH ?_
      simp only [Act.put, List.setIfInBounds_toArray, List.set_cons_zero, List.set_cons_succ]
      refine wpAnyH_take (i := 20) (oi := { dst := some 47, op := Op.indexAddr 22 (Operand.tmp 45) (Operand.tmp 46), type := 0, pos := "l18_rays.go:62", after := #[{ on := 18, ground := Ground.data }, { on := 19, ground := Ground.data }, { on := 11, ground := Ground.guard }], guard := some (11, false) }) (v := .pointer (some ⟨Hg, Ho + k, none⟩)) rfl (by kernel_rfl) (by kernel_rfl) (by kernel_rfl) (fun _ _ _ h => h) (Or.inl ⟨by rfl, fun w0 hSw => by (go_simp)⟩) hH ?_
      simp only [Act.put, List.setIfInBounds_toArray, List.set_cons_zero, List.set_cons_succ]
      refine wpAnyH_take (i := 21) (oi := { dst := some 48, op := Op.load 3 (Operand.tmp 47), type := 3, pos := "l18_rays.go:62", after := #[{ on := 20, ground := Ground.data }, { on := 11, ground := Ground.guard }], guard := some (11, false) }) (v := .int .i64 hk1) rfl (by kernel_rfl) (by kernel_rfl) (by kernel_rfl) (fun _ _ _ h => h) (Or.inl ⟨by rfl, fun w0 hSw => by ((have e9 := cell_nx pH hSw); go_simp)⟩) hH ?_
      simp only [Act.put, List.setIfInBounds_toArray, List.set_cons_zero, List.set_cons_succ]
      refine wpAnyH_take (i := 22) (oi := { dst := some 49, op := Op.binOp BinOp.gtr 3 (Operand.tmp 43) (Operand.tmp 48) 3, type := 4, pos := "l18_rays.go:62", after := #[{ on := 16, ground := Ground.data }, { on := 21, ground := Ground.data }, { on := 11, ground := Ground.guard }], guard := some (11, false) }) (v := .bool false) rfl (by kernel_rfl) (by kernel_rfl) (by kernel_rfl) (fun _ _ _ h => h) (Or.inl ⟨by rfl, fun w0 hSw => by (go_simp)⟩) hH ?_
      simp only [Act.put, List.setIfInBounds_toArray, List.set_cons_zero, List.set_cons_succ]
      refine wpAnyH_take (i := 23) (oi := { dst := some 50, op := Op.pick (Operand.tmp 38) (Operand.const (Value.bool true)) (Operand.tmp 49), type := 4, pos := "l18_rays.go:62", after := #[{ on := 11, ground := Ground.data }, { on := 22, ground := Ground.data }], guard := none }) (v := .bool false) rfl (by kernel_rfl) (by kernel_rfl) (by kernel_rfl) (fun _ _ _ h => h) (Or.inl ⟨by rfl, fun w0 hSw => by (go_simp)⟩) hH ?_
      simp only [Act.put, List.setIfInBounds_toArray, List.set_cons_zero, List.set_cons_succ]
      refine wpAnyH_done (by kernel_rfl) ?_ _
      go_wp2
      go_roundw
      case rel => exact ⟨k + 1, bd, p, q, by omega, rfl, by go_num, by rw [HFN.out]; exact MX.out.next hH, HWN, HB0n, HB1n, HPQ⟩
      case measure => simp [intOf]; omega
    case neg =>
      obtain ⟨an, ad, zn, zd, sw, HPo, HNe, hlt, hs0, hs1⟩ := over_sides (f := F k) bLH hw
      have bcn := cN_bnd (w := W k) bL bH bF
      have bzn : -2000 ≤ zN (L k) (H k) (F k) (W k) ∧ zN (L k) (H k) (F k) (W k) ≤ 2000 := by unfold zN; split <;> (try split) <;> omega
      have hcd : 0 < cD (W k) ∧ cD (W k) ≤ 1000 := ⟨cD_pos _, cD_le bW⟩
      have hmc := mb_rd (show MB (cN (L k) (H k) (F k) (W k)) (cD (W k)) from ⟨bcn, hcd⟩)
      have hmz := mb_rd (show MB (zN (L k) (H k) (F k) (W k)) (cD (W k)) from ⟨bzn, hcd⟩)
      have hmf := HMf.out
      have hmr := mb_rd hmf
      have hmA : MB an ad ∧ MB zn zd := by
        cases sw
        · obtain ⟨x1, x2, x3, x4⟩ := hs0 rfl
          rw [x1, x2, x3, x4]
          exact ⟨hmc, hmz⟩
        · obtain ⟨x1, x2, x3, x4⟩ := hs1 rfl
          rw [x1, x2, x3, x4]
          exact ⟨hmz, hmc⟩
      have HOA : Hid (∀ w', Calls Try.prog 80 #[.int .i64 (L k - F k), .int .i64 (W k)] w' fun e w'' => e = .returned (.agg #[.int .i64 an, .int .i64 ad]) ∧ Below w'.heap.size w' w'') := fun w' => by
        rcases (show 0 < W k ∨ W k < 0 by omega) with h | h
        · obtain ⟨x1, _⟩ := HPo h
          injection x1 with x1 x2
          rw [x1, x2]
          exact mover_pos _ _ w' (by omega) (by omega)
        · obtain ⟨x1, _⟩ := HNe h
          injection x1 with x1 x2
          rw [x1, x2]
          exact mover_neg _ _ w' (by omega) (by omega)
      have HOZ : Hid (∀ w', Calls Try.prog 80 #[.int .i64 (H k - F k), .int .i64 (W k)] w' fun e w'' => e = .returned (.agg #[.int .i64 zn, .int .i64 zd]) ∧ Below w'.heap.size w' w'') := fun w' => by
        rcases (show 0 < W k ∨ W k < 0 by omega) with h | h
        · obtain ⟨_, x1⟩ := HPo h
          injection x1 with x1 x2
          rw [x1, x2]
          exact mover_pos _ _ w' (by omega) (by omega)
        · obtain ⟨_, x1⟩ := HNe h
          injection x1 with x1 x2
          rw [x1, x2]
          exact mover_neg _ _ w' (by omega) (by omega)
      have HLA : Hid (∀ w', Calls Try.prog 81 #[.agg #[.int .i64 zn, .int .i64 zd], .agg #[.int .i64 an, .int .i64 ad]] w' fun r w'' => r = .returned (.bool sw) ∧ Below w'.heap.size w' w'') := fun w' => by rw [← hlt]; exact mless zn zd an ad w' hmA.2 hmA.1
      have HF3 : (decide ((rdN (fst L H F W k).1 (fst L H F W k).2) * rdD (cN (L k) (H k) (F k) (W k)) (cD (W k)) < rdN (cN (L k) (H k) (F k) (W k)) (cD (W k)) * (rdD (fst L H F W k).1 (fst L H F W k).2)) = true → rdN (fst L H F W (k + 1)).1 (fst L H F W (k + 1)).2 = rdN (cN (L k) (H k) (F k) (W k)) (cD (W k)) ∧ rdD (fst L H F W (k + 1)).1 (fst L H F W (k + 1)).2 = rdD (cN (L k) (H k) (F k) (W k)) (cD (W k))) ∧ (decide ((rdN (fst L H F W k).1 (fst L H F W k).2) * rdD (cN (L k) (H k) (F k) (W k)) (cD (W k)) < rdN (cN (L k) (H k) (F k) (W k)) (cD (W k)) * (rdD (fst L H F W k).1 (fst L H F W k).2)) = false → rdN (fst L H F W (k + 1)).1 (fst L H F W (k + 1)).2 = (rdN (fst L H F W k).1 (fst L H F W k).2) ∧ rdD (fst L H F W (k + 1)).1 (fst L H F W (k + 1)).2 = (rdD (fst L H F W k).1 (fst L H F W k).2)) := by
        have hi := rd_lt (n := (fst L H F W k).1) (d := (fst L H F W k).2) (p := cN (L k) (H k) (F k) (W k)) (q := cD (W k)) hmf.2.1 hcd.1
        constructor
        · intro h
          rw [fst, if_pos (hi.1 (of_decide_eq_true h))]
          exact ⟨rfl, rfl⟩
        · intro h
          rw [fst, if_neg (fun g => of_decide_eq_false h (hi.2 g))]
          exact ⟨rfl, rfl⟩
      have HMA0 : bd = false → Mn L H F W (k + 1) (rdN (zN (L k) (H k) (F k) (W k)) (cD (W k))) (rdD (zN (L k) (H k) (F k) (W k)) (cD (W k))) := fun h => Mn.first (HB0.out h) hw
      have HMB0 : bd = true → (decide (rdN (zN (L k) (H k) (F k) (W k)) (cD (W k)) * q < p * rdD (zN (L k) (H k) (F k) (W k)) (cD (W k))) = true → Mn L H F W (k + 1) (rdN (zN (L k) (H k) (F k) (W k)) (cD (W k))) (rdD (zN (L k) (H k) (F k) (W k)) (cD (W k)))) ∧ (decide (rdN (zN (L k) (H k) (F k) (W k)) (cD (W k)) * q < p * rdD (zN (L k) (H k) (F k) (W k)) (cD (W k))) = false → Mn L H F W (k + 1) p q) := fun h => ⟨fun g => ((HB1.out h).step hw rfl rfl).1 (of_decide_eq_true g), fun g => ((HB1.out h).step hw rfl rfl).2 (of_decide_eq_false g)⟩
      have HWN : Hid (∀ j, j < k + 1 → W j = 0 → L j ≤ F j ∧ F j ≤ H j) := fun j hj h0 => if e : j = k then absurd (e ▸ h0) hw else HW.out j (by omega) h0
      have HL20 : ∀ w', Calls Try.prog 81 #[.agg #[.int .i64 (rdN (fst L H F W k).1 (fst L H F W k).2), .int .i64 (rdD (fst L H F W k).1 (fst L H F W k).2)], .agg #[.int .i64 (rdN (cN (L k) (H k) (F k) (W k)) (cD (W k))), .int .i64 (rdD (cN (L k) (H k) (F k) (W k)) (cD (W k)))]] w' fun r w'' => r = .returned (.bool (decide ((rdN (fst L H F W k).1 (fst L H F W k).2) * rdD (cN (L k) (H k) (F k) (W k)) (cD (W k)) < rdN (cN (L k) (H k) (F k) (W k)) (cD (W k)) * (rdD (fst L H F W k).1 (fst L H F W k).2)))) ∧ Below w'.heap.size w' w'' := fun w' => mless _ _ _ _ w' hmr hmc
      have HL30 : ∀ w', Calls Try.prog 81 #[.agg #[.int .i64 (rdN (zN (L k) (H k) (F k) (W k)) (cD (W k))), .int .i64 (rdD (zN (L k) (H k) (F k) (W k)) (cD (W k)))], .agg #[.int .i64 p, .int .i64 q]] w' fun r w'' => r = .returned (.bool (decide (rdN (zN (L k) (H k) (F k) (W k)) (cD (W k)) * q < p * rdD (zN (L k) (H k) (F k) (W k)) (cD (W k))))) ∧ Below w'.heap.size w' w'' := fun w' => mless _ _ _ _ w' hmz HPQ.out
      generalize decide ((rdN (fst L H F W k).1 (fst L H F W k).2) * rdD (cN (L k) (H k) (F k) (W k)) (cD (W k)) < rdN (cN (L k) (H k) (F k) (W k)) (cD (W k)) * (rdD (fst L H F W k).1 (fst L H F W k).2)) = b2 at HF3 HL20
      generalize decide (rdN (zN (L k) (H k) (F k) (W k)) (cD (W k)) * q < p * rdD (zN (L k) (H k) (F k) (W k)) (cD (W k))) = b3 at HMB0 HL30
      generalize rdN (cN (L k) (H k) (F k) (W k)) (cD (W k)) = c1 at HF3 HL20 hs0 hs1
      generalize rdD (cN (L k) (H k) (F k) (W k)) (cD (W k)) = c2 at HF3 HL20 hs0 hs1
      generalize rdN (zN (L k) (H k) (F k) (W k)) (cD (W k)) = e1 at HMA0 HMB0 HL30 hs0 hs1 hmz
      generalize rdD (zN (L k) (H k) (F k) (W k)) (cD (W k)) = e2 at HMA0 HMB0 HL30 hs0 hs1 hmz
      generalize (rdN (fst L H F W k).1 (fst L H F W k).2) = rn at HM HF3 HL20
      generalize (rdD (fst L H F W k).1 (fst L H F W k).2) = rd at HM HF3 HL20
      have HF2 := Hid.mk HF3
      have HMA := Hid.mk HMA0
      have HMB := Hid.mk HMB0
      have HL2 := Hid.mk HL20
      have HL3 := Hid.mk HL30
      have HME := Hid.mk hmz
      have HS := Hid.mk (And.intro hs0 hs1)
      have w0a : IntKind.i64.wrap (L k - F k) = L k - F k := (IntKind.wrap_i64 _).trans (by omega)
      have w0z : IntKind.i64.wrap (H k - F k) = H k - F k := (IntKind.wrap_i64 _).trans (by omega)
      have hwb : (W k == 0) = false := by simp; exact hw
      clear hmc hmz hmf hmr hmA HPo HNe hlt hs0 hs1 HF3 HMA0 HMB0 HL20 HL30 bcn bzn hcd bL bH bF bW bLH hw HW HB0 HB1 HMf
      generalize L k = lk at pL HOA w0a
      generalize H k = hk1 at pH HOZ w0z
      generalize F k = fk at pF HOA HOZ w0a w0z
      generalize W k = wk at pW HOA HOZ hwb
      clear HR HI HMk HFA HEN HW0 E0
      have hz5 : w.heap.size + 5 ≤ wr.heap.size := by have := HM.out.o.hi; omega
      go_upto_region 11 with fail
      go_cut [11] (fun pv wx => ∃ g : Nat, pv = .pointer (some ⟨g, 0, none⟩) ∧ C2 wx g (.int .i64 an) (.int .i64 ad) ∧ Below wr.heap.size wr wx ∧ wr.heap.size ≤ g)
      case first =>
        generalize hWW : wr.drew = WX
        have xb0 := cell_nx xb0 (below_drew (Below.refl wr.heap.size wr))
        have xb1 := cell_nx xb1 (below_drew (Below.refl wr.heap.size wr))
        have xr0 := cell_nx xr0 (below_drew (Below.refl wr.heap.size wr))
        have xr1 := cell_nx xr1 (below_drew (Below.refl wr.heap.size wr))
        have pL := cell_nx pL (below_drew (Below.refl wr.heap.size wr))
        have pF := cell_nx pF (below_drew (Below.refl wr.heap.size wr))
        have BX2 : Below wr.heap.size wr wr.drew := below_drew (Below.refl _ _)
        rw [hWW] at xb0 xb1 xr0 xr1 pL pF BX2
        refine wp_region_held_drew (S := fun v => Below WX.heap.size WX v) (by kernel_rfl) (by rw [hWW]; exact Below.refl _ _) (fun hH => ?_)
        rw [hWW] at hH ⊢
        clear hWW
        refine wpAnyH_take (i := 0) (oi := { dst := some 52, op := Op.fieldAddr 27 (Operand.tmp 2) 0, type := 0, pos := "l18_rays.go:67", after := #[], guard := none }) (v := .pointer (some ⟨w.heap.size, 0, none⟩)) rfl (by kernel_rfl) (by kernel_rfl) (by kernel_rfl) (fun _ _ _ h => h) (Or.inl ⟨by rfl, fun w0 hSw => by (go_simp)⟩) hH ?_
        simp only [Act.put, List.setIfInBounds_toArray, List.set_cons_zero, List.set_cons_succ]
        refine wpAnyH_take (i := 1) (oi := { dst := some 53, op := Op.load 22 (Operand.tmp 52), type := 22, pos := "l18_rays.go:67", after := #[{ on := 0, ground := Ground.data }], guard := none }) (v := .slice (some ⟨Lg, Lo, none⟩) 3 Lc) rfl (by kernel_rfl) (by kernel_rfl) (by kernel_rfl) (fun _ _ _ h => h) (Or.inl ⟨by rfl, fun w0 hSw => by ((have e9 := cell_nx xb0 hSw); go_simp)⟩) hH ?_
        simp only [Act.put, List.setIfInBounds_toArray, List.set_cons_zero, List.set_cons_succ]
        refine wpAnyH_take (i := 2) (oi := { dst := some 54, op := Op.move (Operand.tmp 9), type := 3, pos := "l18_rays.go:67", after := #[], guard := none }) (v := .int .i64 k) rfl (by kernel_rfl) (by kernel_rfl) (by kernel_rfl) (fun _ _ _ h => h) (Or.inl ⟨by rfl, fun w0 hSw => by (go_simp)⟩) hH ?_
        simp only [Act.put, List.setIfInBounds_toArray, List.set_cons_zero, List.set_cons_succ]
        refine wpAnyH_take (i := 3) (oi := { dst := some 55, op := Op.indexAddr 22 (Operand.tmp 53) (Operand.tmp 54), type := 0, pos := "l18_rays.go:67", after := #[{ on := 1, ground := Ground.data }, { on := 2, ground := Ground.data }], guard := none }) (v := .pointer (some ⟨Lg, Lo + k, none⟩)) rfl (by kernel_rfl) (by kernel_rfl) (by kernel_rfl) (fun _ _ _ h => h) (Or.inl ⟨by rfl, fun w0 hSw => by (go_simp)⟩) hH ?_
        simp only [Act.put, List.setIfInBounds_toArray, List.set_cons_zero, List.set_cons_succ]
        refine wpAnyH_take (i := 4) (oi := { dst := some 56, op := Op.load 3 (Operand.tmp 55), type := 3, pos := "l18_rays.go:67", after := #[{ on := 3, ground := Ground.data }], guard := none }) (v := .int .i64 lk) rfl (by kernel_rfl) (by kernel_rfl) (by kernel_rfl) (fun _ _ _ h => h) (Or.inl ⟨by rfl, fun w0 hSw => by ((have e9 := cell_nx pL hSw); go_simp)⟩) hH ?_
        simp only [Act.put, List.setIfInBounds_toArray, List.set_cons_zero, List.set_cons_succ]
        refine wpAnyH_take (i := 5) (oi := { dst := some 57, op := Op.fieldAddr 35 (Operand.tmp 3) 0, type := 0, pos := "l18_rays.go:67", after := #[], guard := none }) (v := .pointer (some ⟨w.heap.size + 1, 0, none⟩)) rfl (by kernel_rfl) (by kernel_rfl) (by kernel_rfl) (fun _ _ _ h => h) (Or.inl ⟨by rfl, fun w0 hSw => by (go_simp)⟩) hH ?_
        simp only [Act.put, List.setIfInBounds_toArray, List.set_cons_zero, List.set_cons_succ]
        refine wpAnyH_take (i := 6) (oi := { dst := some 58, op := Op.load 22 (Operand.tmp 57), type := 22, pos := "l18_rays.go:67", after := #[{ on := 5, ground := Ground.data }], guard := none }) (v := .slice (some ⟨Fg, Fo, none⟩) 3 Fc) rfl (by kernel_rfl) (by kernel_rfl) (by kernel_rfl) (fun _ _ _ h => h) (Or.inl ⟨by rfl, fun w0 hSw => by ((have e9 := cell_nx xr0 hSw); go_simp)⟩) hH ?_
        simp only [Act.put, List.setIfInBounds_toArray, List.set_cons_zero, List.set_cons_succ]
        refine wpAnyH_take (i := 7) (oi := { dst := some 59, op := Op.move (Operand.tmp 9), type := 3, pos := "l18_rays.go:67", after := #[], guard := none }) (v := .int .i64 k) rfl (by kernel_rfl) (by kernel_rfl) (by kernel_rfl) (fun _ _ _ h => h) (Or.inl ⟨by rfl, fun w0 hSw => by (go_simp)⟩) hH ?_
        simp only [Act.put, List.setIfInBounds_toArray, List.set_cons_zero, List.set_cons_succ]
        refine wpAnyH_take (i := 8) (oi := { dst := some 60, op := Op.indexAddr 22 (Operand.tmp 58) (Operand.tmp 59), type := 0, pos := "l18_rays.go:67", after := #[{ on := 6, ground := Ground.data }, { on := 7, ground := Ground.data }], guard := none }) (v := .pointer (some ⟨Fg, Fo + k, none⟩)) rfl (by kernel_rfl) (by kernel_rfl) (by kernel_rfl) (fun _ _ _ h => h) (Or.inl ⟨by rfl, fun w0 hSw => by (go_simp)⟩) hH ?_
        simp only [Act.put, List.setIfInBounds_toArray, List.set_cons_zero, List.set_cons_succ]
        refine wpAnyH_take (i := 9) (oi := { dst := some 61, op := Op.load 3 (Operand.tmp 60), type := 3, pos := "l18_rays.go:67", after := #[{ on := 8, ground := Ground.data }], guard := none }) (v := .int .i64 fk) rfl (by kernel_rfl) (by kernel_rfl) (by kernel_rfl) (fun _ _ _ h => h) (Or.inl ⟨by rfl, fun w0 hSw => by ((have e9 := cell_nx pF hSw); go_simp)⟩) hH ?_
        simp only [Act.put, List.setIfInBounds_toArray, List.set_cons_zero, List.set_cons_succ]
        refine wpAnyH_take (i := 10) (oi := { dst := some 62, op := Op.binOp BinOp.sub 3 (Operand.tmp 56) (Operand.tmp 61) 3, type := 3, pos := "l18_rays.go:67", after := #[{ on := 4, ground := Ground.data }, { on := 9, ground := Ground.data }], guard := none }) (v := .int .i64 (lk - fk)) rfl (by kernel_rfl) (by kernel_rfl) (by kernel_rfl) (fun _ _ _ h => h) (Or.inl ⟨by rfl, fun w0 hSw => by (go_simp)⟩) hH ?_
        simp only [Act.put, List.setIfInBounds_toArray, List.set_cons_zero, List.set_cons_succ]
        refine wpAnyH_take (i := 11) (oi := { dst := some 63, op := Op.move (Operand.tmp 10), type := 3, pos := "l18_rays.go:67", after := #[], guard := none }) (v := .int .i64 wk) rfl (by kernel_rfl) (by kernel_rfl) (by kernel_rfl) (fun _ _ _ h => h) (Or.inl ⟨by rfl, fun w0 hSw => by (go_simp)⟩) hH ?_
        simp only [Act.put, List.setIfInBounds_toArray, List.set_cons_zero, List.set_cons_succ]
        refine wpAnyH_ready (rs := [12, 13]) (by kernel_rfl) (by simp) ?_
        refine (AllReadyH.cons (o := { dst := some 64, op := Op.call { callee := Callee.value (Operand.func 80), args := #[Operand.tmp 62, Operand.tmp 63], argTypes := #[3, 3] }, type := 81, pos := "l18_rays.go:67", after := #[{ on := 10, ground := Ground.data }, { on := 11, ground := Ground.data }], guard := none }) rfl (fun K hK => ?_) (AllReadyH.cons (o := { dst := some 11, op := Op.alloc 81, type := 0, pos := "l18_rays.go:67", after := #[], guard := none }) rfl (fun K hK => ?_) AllReadyH.nil))
        · refine step_callW 80 #[.int .i64 (lk - fk), .int .i64 wk] (fun z v w' => z = .agg #[.int .i64 an, .int .i64 ad] ∧ Below v.heap.size v w') (by rfl) (by go_simp) ((HOA.out _).mono fun e w' ⟨h1, h2⟩ => ⟨_, h1, rfl, h2⟩) ?_
          rintro z9 w9 ⟨rfl, B9⟩
          simp only [Act.put, List.setIfInBounds_toArray, List.set_cons_zero, List.set_cons_succ]
          refine hK.out _ _ (hH.trans (B9.mono hH.size)) (fun hH' => ?_)
          clear hK K
          replace hH := hH'
          clear hH' 
          clear B9
          refine wpAnyH_ready (rs := [13]) (by kernel_rfl) (by simp) ?_
          refine (AllReadyH.cons (o := { dst := some 11, op := Op.alloc 81, type := 0, pos := "l18_rays.go:67", after := #[], guard := none }) rfl (fun K hK => ?_) AllReadyH.nil)
          refine step_val (.pointer (some ⟨w9.heap.size, 0, none⟩)) (w9.alloc (.cells #[.int .i64 0, .int .i64 0] 81)) (by rfl) (by go_simp) ?_
          have D8 := C2.new w9 81 (.int .i64 0) (.int .i64 0)
          have hD8 : WX.heap.size ≤ w9.heap.size := hH.size
          simp only [Act.put, List.setIfInBounds_toArray, List.set_cons_zero, List.set_cons_succ]
          refine hK.out _ _ (hH.trans (alloc_b.mono hH.size)) (fun hH' => ?_)
          clear hK K
          replace hH := hH'
          clear hH' 
          generalize w9.alloc (.cells #[.int .i64 0, .int .i64 0] 81) = wN at D8 hH ⊢
          refine wpAnyH_ready (rs := [14]) (by kernel_rfl) (by simp) ?_
          refine (AllReadyH.cons (o := { dst := none, op := Op.store 81 (Operand.tmp 11) (Operand.tmp 64), type := 0, pos := "l18_rays.go:67", after := #[{ on := 13, ground := Ground.data }, { on := 12, ground := Ground.data }, { on := 12, ground := Ground.chain }, { on := 0, ground := Ground.phase }, { on := 1, ground := Ground.phase }, { on := 2, ground := Ground.phase }, { on := 3, ground := Ground.phase }, { on := 4, ground := Ground.phase }, { on := 5, ground := Ground.phase }, { on := 6, ground := Ground.phase }, { on := 7, ground := Ground.phase }, { on := 8, ground := Ground.phase }, { on := 9, ground := Ground.phase }, { on := 10, ground := Ground.phase }, { on := 11, ground := Ground.phase }, { on := 12, ground := Ground.phase }, { on := 13, ground := Ground.phase }], guard := none }) rfl (fun K hK => ?_) AllReadyH.nil)
          have s0 := D8.c0
          have s1 := D8.c1
          have sf := D8.f
          refine step_skip (set2 wN (w9.heap.size) (.int .i64 an) (.int .i64 ad)) (by rfl) (by unfold set2; go_simp) ?_
          have D9 := D8.put (.int .i64 an) (.int .i64 ad)
          have B9 : Below WX.heap.size WX (set2 wN (w9.heap.size) (.int .i64 an) (.int .i64 ad)) := hH.trans ((only_set2 wN (w9.heap.size) (.int .i64 an) (.int .i64 ad)).below hD8 hH.size)
          refine hK.out _ _ B9 (fun hH' => ?_)
          clear hK K
          replace hH := hH'
          clear hH' s0 s1 sf D8
          refine wpAnyH_done (by kernel_rfl) ?_ _
          go_wp2_with fail
          go_meet
          case rel => exact ⟨w9.heap.size, rfl, D9, BX2.trans (B9.mono BX2.size), Nat.le_trans BX2.size hD8⟩
        · refine step_val (.pointer (some ⟨WX.heap.size, 0, none⟩)) (WX.alloc (.cells #[.int .i64 0, .int .i64 0] 81)) (by rfl) (by go_simp) ?_
          have D8 := C2.new WX 81 (.int .i64 0) (.int .i64 0)
          have hD8 : WX.heap.size ≤ WX.heap.size := hH.size
          simp only [Act.put, List.setIfInBounds_toArray, List.set_cons_zero, List.set_cons_succ]
          refine hK.out _ _ (hH.trans (alloc_b.mono hH.size)) (fun hH' => ?_)
          clear hK K
          replace hH := hH'
          clear hH' 
          generalize WX.alloc (.cells #[.int .i64 0, .int .i64 0] 81) = wN at D8 hH ⊢
          refine wpAnyH_ready (rs := [12]) (by kernel_rfl) (by simp) ?_
          refine (AllReadyH.cons (o := { dst := some 64, op := Op.call { callee := Callee.value (Operand.func 80), args := #[Operand.tmp 62, Operand.tmp 63], argTypes := #[3, 3] }, type := 81, pos := "l18_rays.go:67", after := #[{ on := 10, ground := Ground.data }, { on := 11, ground := Ground.data }], guard := none }) rfl (fun K hK => ?_) AllReadyH.nil)
          refine step_callW 80 #[.int .i64 (lk - fk), .int .i64 wk] (fun z v w' => z = .agg #[.int .i64 an, .int .i64 ad] ∧ Below v.heap.size v w') (by rfl) (by go_simp) ((HOA.out _).mono fun e w' ⟨h1, h2⟩ => ⟨_, h1, rfl, h2⟩) ?_
          rintro z9 w9 ⟨rfl, B9⟩
          replace D8 := D8.next B9
          simp only [Act.put, List.setIfInBounds_toArray, List.set_cons_zero, List.set_cons_succ]
          refine hK.out _ _ (hH.trans (B9.mono hH.size)) (fun hH' => ?_)
          clear hK K
          replace hH := hH'
          clear hH' 
          clear B9
          refine wpAnyH_ready (rs := [14]) (by kernel_rfl) (by simp) ?_
          refine (AllReadyH.cons (o := { dst := none, op := Op.store 81 (Operand.tmp 11) (Operand.tmp 64), type := 0, pos := "l18_rays.go:67", after := #[{ on := 13, ground := Ground.data }, { on := 12, ground := Ground.data }, { on := 12, ground := Ground.chain }, { on := 0, ground := Ground.phase }, { on := 1, ground := Ground.phase }, { on := 2, ground := Ground.phase }, { on := 3, ground := Ground.phase }, { on := 4, ground := Ground.phase }, { on := 5, ground := Ground.phase }, { on := 6, ground := Ground.phase }, { on := 7, ground := Ground.phase }, { on := 8, ground := Ground.phase }, { on := 9, ground := Ground.phase }, { on := 10, ground := Ground.phase }, { on := 11, ground := Ground.phase }, { on := 12, ground := Ground.phase }, { on := 13, ground := Ground.phase }], guard := none }) rfl (fun K hK => ?_) AllReadyH.nil)
          have s0 := D8.c0
          have s1 := D8.c1
          have sf := D8.f
          refine step_skip (set2 w9 (WX.heap.size) (.int .i64 an) (.int .i64 ad)) (by rfl) (by unfold set2; go_simp) ?_
          have D9 := D8.put (.int .i64 an) (.int .i64 ad)
          have B9 : Below WX.heap.size WX (set2 w9 (WX.heap.size) (.int .i64 an) (.int .i64 ad)) := hH.trans ((only_set2 w9 (WX.heap.size) (.int .i64 an) (.int .i64 ad)).below hD8 hH.size)
          refine hK.out _ _ B9 (fun hH' => ?_)
          clear hK K
          replace hH := hH'
          clear hH' s0 s1 sf D8
          refine wpAnyH_done (by kernel_rfl) ?_ _
          go_wp2_with fail
          go_meet
          case rel => exact ⟨WX.heap.size, rfl, D9, BX2.trans (B9.mono BX2.size), Nat.le_trans BX2.size hD8⟩
      case rest =>
        obtain ⟨ga, rfl, KA5, B5, hga⟩ := hcut
        have M5 := Hid.mk (HM.out.next B5)
        have xb0 := cell_nx xb0 B5
        have xb1 := cell_nx xb1 B5
        have xr0 := cell_nx xr0 B5
        have xr1 := cell_nx xr1 B5
        have pH := cell_nx pH B5
        have pF := cell_nx pF B5
        have hga5 : w.heap.size + 5 ≤ ga := by omega
        have hgaw := KA5.hi
        clear HM B5 hga pL pW
        generalize hwc : wc = w5 at *
        clear hwc
        go_upto_region 12 with fail
        go_cut [12] (fun pv wx => ∃ g : Nat, pv = .pointer (some ⟨g, 0, none⟩) ∧ C2 wx g (.int .i64 zn) (.int .i64 zd) ∧ Below w5.heap.size w5 wx ∧ w5.heap.size ≤ g)
        case first =>
          generalize hWW : w5.drew = WX
          have xb0 := cell_nx xb0 (below_drew (Below.refl w5.heap.size w5))
          have xb1 := cell_nx xb1 (below_drew (Below.refl w5.heap.size w5))
          have xr0 := cell_nx xr0 (below_drew (Below.refl w5.heap.size w5))
          have xr1 := cell_nx xr1 (below_drew (Below.refl w5.heap.size w5))
          have pH := cell_nx pH (below_drew (Below.refl w5.heap.size w5))
          have pF := cell_nx pF (below_drew (Below.refl w5.heap.size w5))
          have BX2 : Below w5.heap.size w5 w5.drew := below_drew (Below.refl _ _)
          rw [hWW] at xb0 xb1 xr0 xr1 pH pF BX2
          refine wp_region_held_drew (S := fun v => Below WX.heap.size WX v) (by kernel_rfl) (by rw [hWW]; exact Below.refl _ _) (fun hH => ?_)
          rw [hWW] at hH ⊢
          clear hWW
          refine wpAnyH_take (i := 0) (oi := { dst := some 65, op := Op.fieldAddr 27 (Operand.tmp 2) 1, type := 0, pos := "l18_rays.go:68", after := #[], guard := none }) (v := .pointer (some ⟨w.heap.size, 1, none⟩)) rfl (by kernel_rfl) (by kernel_rfl) (by kernel_rfl) (fun _ _ _ h => h) (Or.inl ⟨by rfl, fun w0 hSw => by (go_simp)⟩) hH ?_
          simp only [Act.put, List.setIfInBounds_toArray, List.set_cons_zero, List.set_cons_succ]
          refine wpAnyH_take (i := 1) (oi := { dst := some 66, op := Op.load 22 (Operand.tmp 65), type := 22, pos := "l18_rays.go:68", after := #[{ on := 0, ground := Ground.data }], guard := none }) (v := .slice (some ⟨Hg, Ho, none⟩) 3 Hc) rfl (by kernel_rfl) (by kernel_rfl) (by kernel_rfl) (fun _ _ _ h => h) (Or.inl ⟨by rfl, fun w0 hSw => by ((have e9 := cell_nx xb1 hSw); go_simp)⟩) hH ?_
          simp only [Act.put, List.setIfInBounds_toArray, List.set_cons_zero, List.set_cons_succ]
          refine wpAnyH_take (i := 2) (oi := { dst := some 67, op := Op.move (Operand.tmp 9), type := 3, pos := "l18_rays.go:68", after := #[], guard := none }) (v := .int .i64 k) rfl (by kernel_rfl) (by kernel_rfl) (by kernel_rfl) (fun _ _ _ h => h) (Or.inl ⟨by rfl, fun w0 hSw => by (go_simp)⟩) hH ?_
          simp only [Act.put, List.setIfInBounds_toArray, List.set_cons_zero, List.set_cons_succ]
          refine wpAnyH_take (i := 3) (oi := { dst := some 68, op := Op.indexAddr 22 (Operand.tmp 66) (Operand.tmp 67), type := 0, pos := "l18_rays.go:68", after := #[{ on := 1, ground := Ground.data }, { on := 2, ground := Ground.data }], guard := none }) (v := .pointer (some ⟨Hg, Ho + k, none⟩)) rfl (by kernel_rfl) (by kernel_rfl) (by kernel_rfl) (fun _ _ _ h => h) (Or.inl ⟨by rfl, fun w0 hSw => by (go_simp)⟩) hH ?_
          simp only [Act.put, List.setIfInBounds_toArray, List.set_cons_zero, List.set_cons_succ]
          refine wpAnyH_take (i := 4) (oi := { dst := some 69, op := Op.load 3 (Operand.tmp 68), type := 3, pos := "l18_rays.go:68", after := #[{ on := 3, ground := Ground.data }], guard := none }) (v := .int .i64 hk1) rfl (by kernel_rfl) (by kernel_rfl) (by kernel_rfl) (fun _ _ _ h => h) (Or.inl ⟨by rfl, fun w0 hSw => by ((have e9 := cell_nx pH hSw); go_simp)⟩) hH ?_
          simp only [Act.put, List.setIfInBounds_toArray, List.set_cons_zero, List.set_cons_succ]
          refine wpAnyH_take (i := 5) (oi := { dst := some 70, op := Op.fieldAddr 35 (Operand.tmp 3) 0, type := 0, pos := "l18_rays.go:68", after := #[], guard := none }) (v := .pointer (some ⟨w.heap.size + 1, 0, none⟩)) rfl (by kernel_rfl) (by kernel_rfl) (by kernel_rfl) (fun _ _ _ h => h) (Or.inl ⟨by rfl, fun w0 hSw => by (go_simp)⟩) hH ?_
          simp only [Act.put, List.setIfInBounds_toArray, List.set_cons_zero, List.set_cons_succ]
          refine wpAnyH_take (i := 6) (oi := { dst := some 71, op := Op.load 22 (Operand.tmp 70), type := 22, pos := "l18_rays.go:68", after := #[{ on := 5, ground := Ground.data }], guard := none }) (v := .slice (some ⟨Fg, Fo, none⟩) 3 Fc) rfl (by kernel_rfl) (by kernel_rfl) (by kernel_rfl) (fun _ _ _ h => h) (Or.inl ⟨by rfl, fun w0 hSw => by ((have e9 := cell_nx xr0 hSw); go_simp)⟩) hH ?_
          simp only [Act.put, List.setIfInBounds_toArray, List.set_cons_zero, List.set_cons_succ]
          refine wpAnyH_take (i := 7) (oi := { dst := some 72, op := Op.move (Operand.tmp 9), type := 3, pos := "l18_rays.go:68", after := #[], guard := none }) (v := .int .i64 k) rfl (by kernel_rfl) (by kernel_rfl) (by kernel_rfl) (fun _ _ _ h => h) (Or.inl ⟨by rfl, fun w0 hSw => by (go_simp)⟩) hH ?_
          simp only [Act.put, List.setIfInBounds_toArray, List.set_cons_zero, List.set_cons_succ]
          refine wpAnyH_take (i := 8) (oi := { dst := some 73, op := Op.indexAddr 22 (Operand.tmp 71) (Operand.tmp 72), type := 0, pos := "l18_rays.go:68", after := #[{ on := 6, ground := Ground.data }, { on := 7, ground := Ground.data }], guard := none }) (v := .pointer (some ⟨Fg, Fo + k, none⟩)) rfl (by kernel_rfl) (by kernel_rfl) (by kernel_rfl) (fun _ _ _ h => h) (Or.inl ⟨by rfl, fun w0 hSw => by (go_simp)⟩) hH ?_
          simp only [Act.put, List.setIfInBounds_toArray, List.set_cons_zero, List.set_cons_succ]
          refine wpAnyH_take (i := 9) (oi := { dst := some 74, op := Op.load 3 (Operand.tmp 73), type := 3, pos := "l18_rays.go:68", after := #[{ on := 8, ground := Ground.data }], guard := none }) (v := .int .i64 fk) rfl (by kernel_rfl) (by kernel_rfl) (by kernel_rfl) (fun _ _ _ h => h) (Or.inl ⟨by rfl, fun w0 hSw => by ((have e9 := cell_nx pF hSw); go_simp)⟩) hH ?_
          simp only [Act.put, List.setIfInBounds_toArray, List.set_cons_zero, List.set_cons_succ]
          refine wpAnyH_take (i := 10) (oi := { dst := some 75, op := Op.binOp BinOp.sub 3 (Operand.tmp 69) (Operand.tmp 74) 3, type := 3, pos := "l18_rays.go:68", after := #[{ on := 4, ground := Ground.data }, { on := 9, ground := Ground.data }], guard := none }) (v := .int .i64 (hk1 - fk)) rfl (by kernel_rfl) (by kernel_rfl) (by kernel_rfl) (fun _ _ _ h => h) (Or.inl ⟨by rfl, fun w0 hSw => by (go_simp)⟩) hH ?_
          simp only [Act.put, List.setIfInBounds_toArray, List.set_cons_zero, List.set_cons_succ]
          refine wpAnyH_take (i := 11) (oi := { dst := some 76, op := Op.move (Operand.tmp 10), type := 3, pos := "l18_rays.go:68", after := #[], guard := none }) (v := .int .i64 wk) rfl (by kernel_rfl) (by kernel_rfl) (by kernel_rfl) (fun _ _ _ h => h) (Or.inl ⟨by rfl, fun w0 hSw => by (go_simp)⟩) hH ?_
          simp only [Act.put, List.setIfInBounds_toArray, List.set_cons_zero, List.set_cons_succ]
          refine wpAnyH_ready (rs := [12, 13]) (by kernel_rfl) (by simp) ?_
          refine (AllReadyH.cons (o := { dst := some 77, op := Op.call { callee := Callee.value (Operand.func 80), args := #[Operand.tmp 75, Operand.tmp 76], argTypes := #[3, 3] }, type := 81, pos := "l18_rays.go:68", after := #[{ on := 10, ground := Ground.data }, { on := 11, ground := Ground.data }], guard := none }) rfl (fun K hK => ?_) (AllReadyH.cons (o := { dst := some 12, op := Op.alloc 81, type := 0, pos := "l18_rays.go:68", after := #[], guard := none }) rfl (fun K hK => ?_) AllReadyH.nil))
          · refine step_callW 80 #[.int .i64 (hk1 - fk), .int .i64 wk] (fun z v w' => z = .agg #[.int .i64 zn, .int .i64 zd] ∧ Below v.heap.size v w') (by rfl) (by go_simp) ((HOZ.out _).mono fun e w' ⟨h1, h2⟩ => ⟨_, h1, rfl, h2⟩) ?_
            rintro z9 w9 ⟨rfl, B9⟩
            simp only [Act.put, List.setIfInBounds_toArray, List.set_cons_zero, List.set_cons_succ]
            refine hK.out _ _ (hH.trans (B9.mono hH.size)) (fun hH' => ?_)
            clear hK K
            replace hH := hH'
            clear hH' 
            clear B9
            refine wpAnyH_ready (rs := [13]) (by kernel_rfl) (by simp) ?_
            refine (AllReadyH.cons (o := { dst := some 12, op := Op.alloc 81, type := 0, pos := "l18_rays.go:68", after := #[], guard := none }) rfl (fun K hK => ?_) AllReadyH.nil)
            refine step_val (.pointer (some ⟨w9.heap.size, 0, none⟩)) (w9.alloc (.cells #[.int .i64 0, .int .i64 0] 81)) (by rfl) (by go_simp) ?_
            have D8 := C2.new w9 81 (.int .i64 0) (.int .i64 0)
            have hD8 : WX.heap.size ≤ w9.heap.size := hH.size
            simp only [Act.put, List.setIfInBounds_toArray, List.set_cons_zero, List.set_cons_succ]
            refine hK.out _ _ (hH.trans (alloc_b.mono hH.size)) (fun hH' => ?_)
            clear hK K
            replace hH := hH'
            clear hH' 
            generalize w9.alloc (.cells #[.int .i64 0, .int .i64 0] 81) = wN at D8 hH ⊢
            refine wpAnyH_ready (rs := [14]) (by kernel_rfl) (by simp) ?_
            refine (AllReadyH.cons (o := { dst := none, op := Op.store 81 (Operand.tmp 12) (Operand.tmp 77), type := 0, pos := "l18_rays.go:68", after := #[{ on := 13, ground := Ground.data }, { on := 12, ground := Ground.data }, { on := 12, ground := Ground.chain }, { on := 0, ground := Ground.phase }, { on := 1, ground := Ground.phase }, { on := 2, ground := Ground.phase }, { on := 3, ground := Ground.phase }, { on := 4, ground := Ground.phase }, { on := 5, ground := Ground.phase }, { on := 6, ground := Ground.phase }, { on := 7, ground := Ground.phase }, { on := 8, ground := Ground.phase }, { on := 9, ground := Ground.phase }, { on := 10, ground := Ground.phase }, { on := 11, ground := Ground.phase }, { on := 12, ground := Ground.phase }, { on := 13, ground := Ground.phase }], guard := none }) rfl (fun K hK => ?_) AllReadyH.nil)
            have s0 := D8.c0
            have s1 := D8.c1
            have sf := D8.f
            refine step_skip (set2 wN (w9.heap.size) (.int .i64 zn) (.int .i64 zd)) (by rfl) (by unfold set2; go_simp) ?_
            have D9 := D8.put (.int .i64 zn) (.int .i64 zd)
            have B9 : Below WX.heap.size WX (set2 wN (w9.heap.size) (.int .i64 zn) (.int .i64 zd)) := hH.trans ((only_set2 wN (w9.heap.size) (.int .i64 zn) (.int .i64 zd)).below hD8 hH.size)
            refine hK.out _ _ B9 (fun hH' => ?_)
            clear hK K
            replace hH := hH'
            clear hH' s0 s1 sf D8
            refine wpAnyH_done (by kernel_rfl) ?_ _
            go_wp2_with fail
            go_meet
            case rel => exact ⟨w9.heap.size, rfl, D9, BX2.trans (B9.mono BX2.size), Nat.le_trans BX2.size hD8⟩
          · refine step_val (.pointer (some ⟨WX.heap.size, 0, none⟩)) (WX.alloc (.cells #[.int .i64 0, .int .i64 0] 81)) (by rfl) (by go_simp) ?_
            have D8 := C2.new WX 81 (.int .i64 0) (.int .i64 0)
            have hD8 : WX.heap.size ≤ WX.heap.size := hH.size
            simp only [Act.put, List.setIfInBounds_toArray, List.set_cons_zero, List.set_cons_succ]
            refine hK.out _ _ (hH.trans (alloc_b.mono hH.size)) (fun hH' => ?_)
            clear hK K
            replace hH := hH'
            clear hH' 
            generalize WX.alloc (.cells #[.int .i64 0, .int .i64 0] 81) = wN at D8 hH ⊢
            refine wpAnyH_ready (rs := [12]) (by kernel_rfl) (by simp) ?_
            refine (AllReadyH.cons (o := { dst := some 77, op := Op.call { callee := Callee.value (Operand.func 80), args := #[Operand.tmp 75, Operand.tmp 76], argTypes := #[3, 3] }, type := 81, pos := "l18_rays.go:68", after := #[{ on := 10, ground := Ground.data }, { on := 11, ground := Ground.data }], guard := none }) rfl (fun K hK => ?_) AllReadyH.nil)
            refine step_callW 80 #[.int .i64 (hk1 - fk), .int .i64 wk] (fun z v w' => z = .agg #[.int .i64 zn, .int .i64 zd] ∧ Below v.heap.size v w') (by rfl) (by go_simp) ((HOZ.out _).mono fun e w' ⟨h1, h2⟩ => ⟨_, h1, rfl, h2⟩) ?_
            rintro z9 w9 ⟨rfl, B9⟩
            replace D8 := D8.next B9
            simp only [Act.put, List.setIfInBounds_toArray, List.set_cons_zero, List.set_cons_succ]
            refine hK.out _ _ (hH.trans (B9.mono hH.size)) (fun hH' => ?_)
            clear hK K
            replace hH := hH'
            clear hH' 
            clear B9
            refine wpAnyH_ready (rs := [14]) (by kernel_rfl) (by simp) ?_
            refine (AllReadyH.cons (o := { dst := none, op := Op.store 81 (Operand.tmp 12) (Operand.tmp 77), type := 0, pos := "l18_rays.go:68", after := #[{ on := 13, ground := Ground.data }, { on := 12, ground := Ground.data }, { on := 12, ground := Ground.chain }, { on := 0, ground := Ground.phase }, { on := 1, ground := Ground.phase }, { on := 2, ground := Ground.phase }, { on := 3, ground := Ground.phase }, { on := 4, ground := Ground.phase }, { on := 5, ground := Ground.phase }, { on := 6, ground := Ground.phase }, { on := 7, ground := Ground.phase }, { on := 8, ground := Ground.phase }, { on := 9, ground := Ground.phase }, { on := 10, ground := Ground.phase }, { on := 11, ground := Ground.phase }, { on := 12, ground := Ground.phase }, { on := 13, ground := Ground.phase }], guard := none }) rfl (fun K hK => ?_) AllReadyH.nil)
            have s0 := D8.c0
            have s1 := D8.c1
            have sf := D8.f
            refine step_skip (set2 w9 (WX.heap.size) (.int .i64 zn) (.int .i64 zd)) (by rfl) (by unfold set2; go_simp) ?_
            have D9 := D8.put (.int .i64 zn) (.int .i64 zd)
            have B9 : Below WX.heap.size WX (set2 w9 (WX.heap.size) (.int .i64 zn) (.int .i64 zd)) := hH.trans ((only_set2 w9 (WX.heap.size) (.int .i64 zn) (.int .i64 zd)).below hD8 hH.size)
            refine hK.out _ _ B9 (fun hH' => ?_)
            clear hK K
            replace hH := hH'
            clear hH' s0 s1 sf D8
            refine wpAnyH_done (by kernel_rfl) ?_ _
            go_wp2_with fail
            go_meet
            case rel => exact ⟨WX.heap.size, rfl, D9, BX2.trans (B9.mono BX2.size), Nat.le_trans BX2.size hD8⟩
        case rest =>
          obtain ⟨gz, rfl, KZ6, B6, hgz⟩ := hcut
          have M6 := Hid.mk (M5.out.next B6)
          have KA6 := KA5.next B6
          have n1 : ¬ ga = gz := by omega
          have n2 : ¬ gz = ga := by omega
          have hgz5 : w.heap.size + 5 ≤ gz := by omega
          have n3 : ¬ gz = w.heap.size + 1 + 1 + 1 := by omega
          have n4 : ¬ w.heap.size + 1 + 1 + 1 = gz := by omega
          clear M5 KA5 B6 hgz hgaw xb0 xb1 xr0 xr1 pH pF
          generalize hwc : wc = w6 at *
          clear hwc
          have k0 := KA6.c0
          have k1 := KA6.c1
          have l0 := KZ6.c0
          have l1 := KZ6.c1
          cases sw
          case false =>
            obtain ⟨x1, x2, x3, x4⟩ := HS.out.1 rfl
            clear HS
            subst an ad zn zd
            go_upto_region 17 with (go_at_call 81; refine (HLA.out _).mono ?_; rintro e7 w7 ⟨rfl, B7⟩; (have M7 := Hid.mk (M6.out.next B7)); (have KA7 := KA6.next B7); (have KZ7 := KZ6.next B7))
            have MT := M7
            have KA := KA7
            have KZ := KZ7
            clear M7 KA7 KZ7 M6 KA6 KZ6 k0 k1 l0 l1
            have ka0 := KA.c0
            have ka1 := KA.c1
            have ii0 := MT.out.i.c0
            have ii1 := MT.out.i.c1
            cases b2
            case false =>
              cases bd
              case false =>
                go_wp2_with (first | (go_at_call 81; (with_reducible show Calls Try.prog 81 #[.agg #[.int .i64 rn, .int .i64 rd], .agg #[.int .i64 c1, .int .i64 c2]] _ _); refine (HL2.out _).mono ?_; rintro e8 w8 ⟨rfl, B8⟩; (have M8 := Hid.mk (MT.out.next B8)); (have KA8 := KA.next B8); (have KZ8 := KZ.next B8); clear ka0 ka1 ii0 ii1; (have ka0 := KA8.c0); (have ka1 := KA8.c1); (have kz0 := KZ8.c0); (have kz1 := KZ8.c1); (have ii0 := M8.out.i.c0); (have ii1 := M8.out.i.c1); (have iif := M8.out.i.f); (have oo0 := M8.out.o.c0); (have oo1 := M8.out.o.c1); (have oof := M8.out.o.f)) | (go_at_call 81; (with_reducible show Calls Try.prog 81 #[.agg #[.int .i64 e1, .int .i64 e2], .agg #[.int .i64 p, .int .i64 q]] _ _); refine (HL3.out _).mono ?_; rintro e9 w9 ⟨rfl, B9⟩; (have M9 := Hid.mk (M8.out.next B9)); (have KZ9 := KZ8.next B9); clear kz0 kz1 oo0 oo1 oof; (have kz0 := KZ9.c0); (have kz1 := KZ9.c1); (have oo0 := M9.out.o.c0); (have oo1 := M9.out.o.c1); (have oof := M9.out.o.f)))
                have MF := Hid.mk (M8.out.setO e1 e2)
                go_roundw
                case rel => exact ⟨k + 1, true, e1, e2, by omega, rfl, by go_num, by rw [(HF2.out.2 (by first | rfl | trivial)).1, (HF2.out.2 (by first | rfl | trivial)).2]; exact MF.out, HWN.out, (fun h => nomatch h), (fun _ => HMA.out (by first | rfl | trivial)), HME.out⟩
                case measure => simp [intOf]; omega
              cases b3
              case false =>
                go_wp2_with (first | (go_at_call 81; (with_reducible show Calls Try.prog 81 #[.agg #[.int .i64 rn, .int .i64 rd], .agg #[.int .i64 c1, .int .i64 c2]] _ _); refine (HL2.out _).mono ?_; rintro e8 w8 ⟨rfl, B8⟩; (have M8 := Hid.mk (MT.out.next B8)); (have KA8 := KA.next B8); (have KZ8 := KZ.next B8); clear ka0 ka1 ii0 ii1; (have ka0 := KA8.c0); (have ka1 := KA8.c1); (have kz0 := KZ8.c0); (have kz1 := KZ8.c1); (have ii0 := M8.out.i.c0); (have ii1 := M8.out.i.c1); (have iif := M8.out.i.f); (have oo0 := M8.out.o.c0); (have oo1 := M8.out.o.c1); (have oof := M8.out.o.f)) | (go_at_call 81; (with_reducible show Calls Try.prog 81 #[.agg #[.int .i64 e1, .int .i64 e2], .agg #[.int .i64 p, .int .i64 q]] _ _); refine (HL3.out _).mono ?_; rintro e9 w9 ⟨rfl, B9⟩; (have M9 := Hid.mk (M8.out.next B9)); (have KZ9 := KZ8.next B9); clear kz0 kz1 oo0 oo1 oof; (have kz0 := KZ9.c0); (have kz1 := KZ9.c1); (have oo0 := M9.out.o.c0); (have oo1 := M9.out.o.c1); (have oof := M9.out.o.f)))
                have MF := Hid.mk (M9.out)
                go_roundw
                case rel => exact ⟨k + 1, true, p, q, by omega, rfl, by go_num, by rw [(HF2.out.2 (by first | rfl | trivial)).1, (HF2.out.2 (by first | rfl | trivial)).2]; exact MF.out, HWN.out, (fun h => nomatch h), (fun _ => (HMB.out (by first | rfl | trivial)).2 (by first | rfl | trivial)), HPQ.out⟩
                case measure => simp [intOf]; omega
              case true =>
                go_wp2_with (first | (go_at_call 81; (with_reducible show Calls Try.prog 81 #[.agg #[.int .i64 rn, .int .i64 rd], .agg #[.int .i64 c1, .int .i64 c2]] _ _); refine (HL2.out _).mono ?_; rintro e8 w8 ⟨rfl, B8⟩; (have M8 := Hid.mk (MT.out.next B8)); (have KA8 := KA.next B8); (have KZ8 := KZ.next B8); clear ka0 ka1 ii0 ii1; (have ka0 := KA8.c0); (have ka1 := KA8.c1); (have kz0 := KZ8.c0); (have kz1 := KZ8.c1); (have ii0 := M8.out.i.c0); (have ii1 := M8.out.i.c1); (have iif := M8.out.i.f); (have oo0 := M8.out.o.c0); (have oo1 := M8.out.o.c1); (have oof := M8.out.o.f)) | (go_at_call 81; (with_reducible show Calls Try.prog 81 #[.agg #[.int .i64 e1, .int .i64 e2], .agg #[.int .i64 p, .int .i64 q]] _ _); refine (HL3.out _).mono ?_; rintro e9 w9 ⟨rfl, B9⟩; (have M9 := Hid.mk (M8.out.next B9)); (have KZ9 := KZ8.next B9); clear kz0 kz1 oo0 oo1 oof; (have kz0 := KZ9.c0); (have kz1 := KZ9.c1); (have oo0 := M9.out.o.c0); (have oo1 := M9.out.o.c1); (have oof := M9.out.o.f)))
                have MF := Hid.mk (M9.out.setO e1 e2)
                go_roundw
                case rel => exact ⟨k + 1, true, e1, e2, by omega, rfl, by go_num, by rw [(HF2.out.2 (by first | rfl | trivial)).1, (HF2.out.2 (by first | rfl | trivial)).2]; exact MF.out, HWN.out, (fun h => nomatch h), (fun _ => (HMB.out (by first | rfl | trivial)).1 (by first | rfl | trivial)), HME.out⟩
                case measure => simp [intOf]; omega
            case true =>
              cases bd
              case false =>
                go_wp2_with (first | (go_at_call 81; (with_reducible show Calls Try.prog 81 #[.agg #[.int .i64 rn, .int .i64 rd], .agg #[.int .i64 c1, .int .i64 c2]] _ _); refine (HL2.out _).mono ?_; rintro e8 w8 ⟨rfl, B8⟩; (have M8 := Hid.mk (MT.out.next B8)); (have KA8 := KA.next B8); (have KZ8 := KZ.next B8); clear ka0 ka1 ii0 ii1; (have ka0 := KA8.c0); (have ka1 := KA8.c1); (have kz0 := KZ8.c0); (have kz1 := KZ8.c1); (have ii0 := M8.out.i.c0); (have ii1 := M8.out.i.c1); (have iif := M8.out.i.f); (have oo0 := M8.out.o.c0); (have oo1 := M8.out.o.c1); (have oof := M8.out.o.f)) | (go_at_call 81; (with_reducible show Calls Try.prog 81 #[.agg #[.int .i64 e1, .int .i64 e2], .agg #[.int .i64 p, .int .i64 q]] _ _); refine (HL3.out _).mono ?_; rintro e9 w9 ⟨rfl, B9⟩; (have M9 := Hid.mk ((M8.out.setI c1 c2).next B9)); (have KZ9 := ((KZ8.far (w.heap.size + 1 + 1 + 1) 0 (.int .i64 c1) (by omega)).far (w.heap.size + 1 + 1 + 1) 1 (.int .i64 c2) (by omega)).next B9); clear kz0 kz1 oo0 oo1 oof; (have kz0 := KZ9.c0); (have kz1 := KZ9.c1); (have oo0 := M9.out.o.c0); (have oo1 := M9.out.o.c1); (have oof := M9.out.o.f)))
                have MF := Hid.mk ((M8.out.setI c1 c2).setO e1 e2)
                go_roundw
                case rel => exact ⟨k + 1, true, e1, e2, by omega, rfl, by go_num, by rw [(HF2.out.1 (by first | rfl | trivial)).1, (HF2.out.1 (by first | rfl | trivial)).2]; exact MF.out, HWN.out, (fun h => nomatch h), (fun _ => HMA.out (by first | rfl | trivial)), HME.out⟩
                case measure => simp [intOf]; omega
              cases b3
              case false =>
                go_wp2_with (first | (go_at_call 81; (with_reducible show Calls Try.prog 81 #[.agg #[.int .i64 rn, .int .i64 rd], .agg #[.int .i64 c1, .int .i64 c2]] _ _); refine (HL2.out _).mono ?_; rintro e8 w8 ⟨rfl, B8⟩; (have M8 := Hid.mk (MT.out.next B8)); (have KA8 := KA.next B8); (have KZ8 := KZ.next B8); clear ka0 ka1 ii0 ii1; (have ka0 := KA8.c0); (have ka1 := KA8.c1); (have kz0 := KZ8.c0); (have kz1 := KZ8.c1); (have ii0 := M8.out.i.c0); (have ii1 := M8.out.i.c1); (have iif := M8.out.i.f); (have oo0 := M8.out.o.c0); (have oo1 := M8.out.o.c1); (have oof := M8.out.o.f)) | (go_at_call 81; (with_reducible show Calls Try.prog 81 #[.agg #[.int .i64 e1, .int .i64 e2], .agg #[.int .i64 p, .int .i64 q]] _ _); refine (HL3.out _).mono ?_; rintro e9 w9 ⟨rfl, B9⟩; (have M9 := Hid.mk ((M8.out.setI c1 c2).next B9)); (have KZ9 := ((KZ8.far (w.heap.size + 1 + 1 + 1) 0 (.int .i64 c1) (by omega)).far (w.heap.size + 1 + 1 + 1) 1 (.int .i64 c2) (by omega)).next B9); clear kz0 kz1 oo0 oo1 oof; (have kz0 := KZ9.c0); (have kz1 := KZ9.c1); (have oo0 := M9.out.o.c0); (have oo1 := M9.out.o.c1); (have oof := M9.out.o.f)))
                have MF := Hid.mk (M9.out)
                go_roundw
                case rel => exact ⟨k + 1, true, p, q, by omega, rfl, by go_num, by rw [(HF2.out.1 (by first | rfl | trivial)).1, (HF2.out.1 (by first | rfl | trivial)).2]; exact MF.out, HWN.out, (fun h => nomatch h), (fun _ => (HMB.out (by first | rfl | trivial)).2 (by first | rfl | trivial)), HPQ.out⟩
                case measure => simp [intOf]; omega
              case true =>
                go_wp2_with (first | (go_at_call 81; (with_reducible show Calls Try.prog 81 #[.agg #[.int .i64 rn, .int .i64 rd], .agg #[.int .i64 c1, .int .i64 c2]] _ _); refine (HL2.out _).mono ?_; rintro e8 w8 ⟨rfl, B8⟩; (have M8 := Hid.mk (MT.out.next B8)); (have KA8 := KA.next B8); (have KZ8 := KZ.next B8); clear ka0 ka1 ii0 ii1; (have ka0 := KA8.c0); (have ka1 := KA8.c1); (have kz0 := KZ8.c0); (have kz1 := KZ8.c1); (have ii0 := M8.out.i.c0); (have ii1 := M8.out.i.c1); (have iif := M8.out.i.f); (have oo0 := M8.out.o.c0); (have oo1 := M8.out.o.c1); (have oof := M8.out.o.f)) | (go_at_call 81; (with_reducible show Calls Try.prog 81 #[.agg #[.int .i64 e1, .int .i64 e2], .agg #[.int .i64 p, .int .i64 q]] _ _); refine (HL3.out _).mono ?_; rintro e9 w9 ⟨rfl, B9⟩; (have M9 := Hid.mk ((M8.out.setI c1 c2).next B9)); (have KZ9 := ((KZ8.far (w.heap.size + 1 + 1 + 1) 0 (.int .i64 c1) (by omega)).far (w.heap.size + 1 + 1 + 1) 1 (.int .i64 c2) (by omega)).next B9); clear kz0 kz1 oo0 oo1 oof; (have kz0 := KZ9.c0); (have kz1 := KZ9.c1); (have oo0 := M9.out.o.c0); (have oo1 := M9.out.o.c1); (have oof := M9.out.o.f)))
                have MF := Hid.mk (M9.out.setO e1 e2)
                go_roundw
                case rel => exact ⟨k + 1, true, e1, e2, by omega, rfl, by go_num, by rw [(HF2.out.1 (by first | rfl | trivial)).1, (HF2.out.1 (by first | rfl | trivial)).2]; exact MF.out, HWN.out, (fun h => nomatch h), (fun _ => (HMB.out (by first | rfl | trivial)).1 (by first | rfl | trivial)), HME.out⟩
                case measure => simp [intOf]; omega
          case true =>
            obtain ⟨x1, x2, x3, x4⟩ := HS.out.2 rfl
            clear HS
            subst an ad zn zd
            go_upto_region 15 with (go_at_call 81; refine (HLA.out _).mono ?_; rintro e7 w7 ⟨rfl, B7⟩; (have M7 := Hid.mk (M6.out.next B7)); (have KA7 := KA6.next B7); (have KZ7 := KZ6.next B7); clear k0 k1 l0 l1; (have k0 := KA7.c0); (have k1 := KA7.c1))
            have M8 := Hid.mk (M7.out.next (alloc_b (o := .cells #[.int .i64 e1, .int .i64 e2] 81)))
            have KA8 := KA7.next (alloc_b (o := .cells #[.int .i64 e1, .int .i64 e2] 81))
            have KZ8 := KZ7.next (alloc_b (o := .cells #[.int .i64 e1, .int .i64 e2] 81))
            have KT8 := C2.new w7 81 (.int .i64 e1) (.int .i64 e2)
            have hgt1 : ¬ ga = w7.heap.size := by have := KA7.hi; omega
            have hgt2 : ¬ gz = w7.heap.size := by have := KZ7.hi; omega
            obtain ⟨gt, hgt⟩ : ∃ g, w7.heap.size = g := ⟨_, rfl⟩
            rw [hgt] at KT8 hgt1 hgt2 ⊢
            generalize w7.alloc (.cells #[.int .i64 e1, .int .i64 e2] 81) = wA at M8 KA8 KZ8 KT8 ⊢
            clear hgt M7 KA7 KZ7 M6 KA6 KZ6 k0 k1
            have l0 := KZ8.c0
            have l1 := KZ8.c1
            have k0 := KA8.c0
            have k1 := KA8.c1
            have kf := KA8.f
            go_upto_region 16 with fail
            have M9 := Hid.mk ((M8.out.far ga 0 (.int .i64 c1) hga5).far ga 1 (.int .i64 c2) hga5)
            have KA9 := (KA8.s0 (.int .i64 c1)).s1 (.int .i64 c2)
            have KZ9 := (KZ8.far ga 0 (.int .i64 c1) n2).far ga 1 (.int .i64 c2) n2
            have KT9 := (KT8.far ga 0 (.int .i64 c1) (fun h => hgt1 h.symm)).far ga 1 (.int .i64 c2) (fun h => hgt1 h.symm)
            generalize (wA.setCell ⟨ga, 0, none⟩ (.int .i64 c1)).setCell ⟨ga, 1, none⟩ (.int .i64 c2) = wB at M9 KA9 KZ9 KT9 ⊢
            clear M8 KA8 KZ8 KT8 k0 k1 kf l0 l1
            have l0 := KZ9.c0
            have l1 := KZ9.c1
            have lf := KZ9.f
            have k0 := KT9.c0
            have k1 := KT9.c1
            go_upto_region 17 with fail
            have MT := Hid.mk ((M9.out.far gz 0 (.int .i64 e1) hgz5).far gz 1 (.int .i64 e2) hgz5)
            have KA := (KA9.far gz 0 (.int .i64 e1) n1).far gz 1 (.int .i64 e2) n1
            have KZ := (KZ9.s0 (.int .i64 e1)).s1 (.int .i64 e2)
            generalize (wB.setCell ⟨gz, 0, none⟩ (.int .i64 e1)).setCell ⟨gz, 1, none⟩ (.int .i64 e2) = wT at MT KA KZ ⊢
            clear M9 KA9 KZ9 KT9 k0 k1 l0 l1 lf hgt1 hgt2
            have ka0 := KA.c0
            have ka1 := KA.c1
            have ii0 := MT.out.i.c0
            have ii1 := MT.out.i.c1
            cases b2
            case false =>
              cases bd
              case false =>
                go_wp2_with (first | (go_at_call 81; (with_reducible show Calls Try.prog 81 #[.agg #[.int .i64 rn, .int .i64 rd], .agg #[.int .i64 c1, .int .i64 c2]] _ _); refine (HL2.out _).mono ?_; rintro e8 w8 ⟨rfl, B8⟩; (have M8 := Hid.mk (MT.out.next B8)); (have KA8 := KA.next B8); (have KZ8 := KZ.next B8); clear ka0 ka1 ii0 ii1; (have ka0 := KA8.c0); (have ka1 := KA8.c1); (have kz0 := KZ8.c0); (have kz1 := KZ8.c1); (have ii0 := M8.out.i.c0); (have ii1 := M8.out.i.c1); (have iif := M8.out.i.f); (have oo0 := M8.out.o.c0); (have oo1 := M8.out.o.c1); (have oof := M8.out.o.f)) | (go_at_call 81; (with_reducible show Calls Try.prog 81 #[.agg #[.int .i64 e1, .int .i64 e2], .agg #[.int .i64 p, .int .i64 q]] _ _); refine (HL3.out _).mono ?_; rintro e9 w9 ⟨rfl, B9⟩; (have M9 := Hid.mk (M8.out.next B9)); (have KZ9 := KZ8.next B9); clear kz0 kz1 oo0 oo1 oof; (have kz0 := KZ9.c0); (have kz1 := KZ9.c1); (have oo0 := M9.out.o.c0); (have oo1 := M9.out.o.c1); (have oof := M9.out.o.f)))
                have MF := Hid.mk (M8.out.setO e1 e2)
                go_roundw
                case rel => exact ⟨k + 1, true, e1, e2, by omega, rfl, by go_num, by rw [(HF2.out.2 (by first | rfl | trivial)).1, (HF2.out.2 (by first | rfl | trivial)).2]; exact MF.out, HWN.out, (fun h => nomatch h), (fun _ => HMA.out (by first | rfl | trivial)), HME.out⟩
                case measure => simp [intOf]; omega
              cases b3
              case false =>
                go_wp2_with (first | (go_at_call 81; (with_reducible show Calls Try.prog 81 #[.agg #[.int .i64 rn, .int .i64 rd], .agg #[.int .i64 c1, .int .i64 c2]] _ _); refine (HL2.out _).mono ?_; rintro e8 w8 ⟨rfl, B8⟩; (have M8 := Hid.mk (MT.out.next B8)); (have KA8 := KA.next B8); (have KZ8 := KZ.next B8); clear ka0 ka1 ii0 ii1; (have ka0 := KA8.c0); (have ka1 := KA8.c1); (have kz0 := KZ8.c0); (have kz1 := KZ8.c1); (have ii0 := M8.out.i.c0); (have ii1 := M8.out.i.c1); (have iif := M8.out.i.f); (have oo0 := M8.out.o.c0); (have oo1 := M8.out.o.c1); (have oof := M8.out.o.f)) | (go_at_call 81; (with_reducible show Calls Try.prog 81 #[.agg #[.int .i64 e1, .int .i64 e2], .agg #[.int .i64 p, .int .i64 q]] _ _); refine (HL3.out _).mono ?_; rintro e9 w9 ⟨rfl, B9⟩; (have M9 := Hid.mk (M8.out.next B9)); (have KZ9 := KZ8.next B9); clear kz0 kz1 oo0 oo1 oof; (have kz0 := KZ9.c0); (have kz1 := KZ9.c1); (have oo0 := M9.out.o.c0); (have oo1 := M9.out.o.c1); (have oof := M9.out.o.f)))
                have MF := Hid.mk (M9.out)
                go_roundw
                case rel => exact ⟨k + 1, true, p, q, by omega, rfl, by go_num, by rw [(HF2.out.2 (by first | rfl | trivial)).1, (HF2.out.2 (by first | rfl | trivial)).2]; exact MF.out, HWN.out, (fun h => nomatch h), (fun _ => (HMB.out (by first | rfl | trivial)).2 (by first | rfl | trivial)), HPQ.out⟩
                case measure => simp [intOf]; omega
              case true =>
                go_wp2_with (first | (go_at_call 81; (with_reducible show Calls Try.prog 81 #[.agg #[.int .i64 rn, .int .i64 rd], .agg #[.int .i64 c1, .int .i64 c2]] _ _); refine (HL2.out _).mono ?_; rintro e8 w8 ⟨rfl, B8⟩; (have M8 := Hid.mk (MT.out.next B8)); (have KA8 := KA.next B8); (have KZ8 := KZ.next B8); clear ka0 ka1 ii0 ii1; (have ka0 := KA8.c0); (have ka1 := KA8.c1); (have kz0 := KZ8.c0); (have kz1 := KZ8.c1); (have ii0 := M8.out.i.c0); (have ii1 := M8.out.i.c1); (have iif := M8.out.i.f); (have oo0 := M8.out.o.c0); (have oo1 := M8.out.o.c1); (have oof := M8.out.o.f)) | (go_at_call 81; (with_reducible show Calls Try.prog 81 #[.agg #[.int .i64 e1, .int .i64 e2], .agg #[.int .i64 p, .int .i64 q]] _ _); refine (HL3.out _).mono ?_; rintro e9 w9 ⟨rfl, B9⟩; (have M9 := Hid.mk (M8.out.next B9)); (have KZ9 := KZ8.next B9); clear kz0 kz1 oo0 oo1 oof; (have kz0 := KZ9.c0); (have kz1 := KZ9.c1); (have oo0 := M9.out.o.c0); (have oo1 := M9.out.o.c1); (have oof := M9.out.o.f)))
                have MF := Hid.mk (M9.out.setO e1 e2)
                go_roundw
                case rel => exact ⟨k + 1, true, e1, e2, by omega, rfl, by go_num, by rw [(HF2.out.2 (by first | rfl | trivial)).1, (HF2.out.2 (by first | rfl | trivial)).2]; exact MF.out, HWN.out, (fun h => nomatch h), (fun _ => (HMB.out (by first | rfl | trivial)).1 (by first | rfl | trivial)), HME.out⟩
                case measure => simp [intOf]; omega
            case true =>
              cases bd
              case false =>
                go_wp2_with (first | (go_at_call 81; (with_reducible show Calls Try.prog 81 #[.agg #[.int .i64 rn, .int .i64 rd], .agg #[.int .i64 c1, .int .i64 c2]] _ _); refine (HL2.out _).mono ?_; rintro e8 w8 ⟨rfl, B8⟩; (have M8 := Hid.mk (MT.out.next B8)); (have KA8 := KA.next B8); (have KZ8 := KZ.next B8); clear ka0 ka1 ii0 ii1; (have ka0 := KA8.c0); (have ka1 := KA8.c1); (have kz0 := KZ8.c0); (have kz1 := KZ8.c1); (have ii0 := M8.out.i.c0); (have ii1 := M8.out.i.c1); (have iif := M8.out.i.f); (have oo0 := M8.out.o.c0); (have oo1 := M8.out.o.c1); (have oof := M8.out.o.f)) | (go_at_call 81; (with_reducible show Calls Try.prog 81 #[.agg #[.int .i64 e1, .int .i64 e2], .agg #[.int .i64 p, .int .i64 q]] _ _); refine (HL3.out _).mono ?_; rintro e9 w9 ⟨rfl, B9⟩; (have M9 := Hid.mk ((M8.out.setI c1 c2).next B9)); (have KZ9 := ((KZ8.far (w.heap.size + 1 + 1 + 1) 0 (.int .i64 c1) (by omega)).far (w.heap.size + 1 + 1 + 1) 1 (.int .i64 c2) (by omega)).next B9); clear kz0 kz1 oo0 oo1 oof; (have kz0 := KZ9.c0); (have kz1 := KZ9.c1); (have oo0 := M9.out.o.c0); (have oo1 := M9.out.o.c1); (have oof := M9.out.o.f)))
                have MF := Hid.mk ((M8.out.setI c1 c2).setO e1 e2)
                go_roundw
                case rel => exact ⟨k + 1, true, e1, e2, by omega, rfl, by go_num, by rw [(HF2.out.1 (by first | rfl | trivial)).1, (HF2.out.1 (by first | rfl | trivial)).2]; exact MF.out, HWN.out, (fun h => nomatch h), (fun _ => HMA.out (by first | rfl | trivial)), HME.out⟩
                case measure => simp [intOf]; omega
              cases b3
              case false =>
                go_wp2_with (first | (go_at_call 81; (with_reducible show Calls Try.prog 81 #[.agg #[.int .i64 rn, .int .i64 rd], .agg #[.int .i64 c1, .int .i64 c2]] _ _); refine (HL2.out _).mono ?_; rintro e8 w8 ⟨rfl, B8⟩; (have M8 := Hid.mk (MT.out.next B8)); (have KA8 := KA.next B8); (have KZ8 := KZ.next B8); clear ka0 ka1 ii0 ii1; (have ka0 := KA8.c0); (have ka1 := KA8.c1); (have kz0 := KZ8.c0); (have kz1 := KZ8.c1); (have ii0 := M8.out.i.c0); (have ii1 := M8.out.i.c1); (have iif := M8.out.i.f); (have oo0 := M8.out.o.c0); (have oo1 := M8.out.o.c1); (have oof := M8.out.o.f)) | (go_at_call 81; (with_reducible show Calls Try.prog 81 #[.agg #[.int .i64 e1, .int .i64 e2], .agg #[.int .i64 p, .int .i64 q]] _ _); refine (HL3.out _).mono ?_; rintro e9 w9 ⟨rfl, B9⟩; (have M9 := Hid.mk ((M8.out.setI c1 c2).next B9)); (have KZ9 := ((KZ8.far (w.heap.size + 1 + 1 + 1) 0 (.int .i64 c1) (by omega)).far (w.heap.size + 1 + 1 + 1) 1 (.int .i64 c2) (by omega)).next B9); clear kz0 kz1 oo0 oo1 oof; (have kz0 := KZ9.c0); (have kz1 := KZ9.c1); (have oo0 := M9.out.o.c0); (have oo1 := M9.out.o.c1); (have oof := M9.out.o.f)))
                have MF := Hid.mk (M9.out)
                go_roundw
                case rel => exact ⟨k + 1, true, p, q, by omega, rfl, by go_num, by rw [(HF2.out.1 (by first | rfl | trivial)).1, (HF2.out.1 (by first | rfl | trivial)).2]; exact MF.out, HWN.out, (fun h => nomatch h), (fun _ => (HMB.out (by first | rfl | trivial)).2 (by first | rfl | trivial)), HPQ.out⟩
                case measure => simp [intOf]; omega
              case true =>
                go_wp2_with (first | (go_at_call 81; (with_reducible show Calls Try.prog 81 #[.agg #[.int .i64 rn, .int .i64 rd], .agg #[.int .i64 c1, .int .i64 c2]] _ _); refine (HL2.out _).mono ?_; rintro e8 w8 ⟨rfl, B8⟩; (have M8 := Hid.mk (MT.out.next B8)); (have KA8 := KA.next B8); (have KZ8 := KZ.next B8); clear ka0 ka1 ii0 ii1; (have ka0 := KA8.c0); (have ka1 := KA8.c1); (have kz0 := KZ8.c0); (have kz1 := KZ8.c1); (have ii0 := M8.out.i.c0); (have ii1 := M8.out.i.c1); (have iif := M8.out.i.f); (have oo0 := M8.out.o.c0); (have oo1 := M8.out.o.c1); (have oof := M8.out.o.f)) | (go_at_call 81; (with_reducible show Calls Try.prog 81 #[.agg #[.int .i64 e1, .int .i64 e2], .agg #[.int .i64 p, .int .i64 q]] _ _); refine (HL3.out _).mono ?_; rintro e9 w9 ⟨rfl, B9⟩; (have M9 := Hid.mk ((M8.out.setI c1 c2).next B9)); (have KZ9 := ((KZ8.far (w.heap.size + 1 + 1 + 1) 0 (.int .i64 c1) (by omega)).far (w.heap.size + 1 + 1 + 1) 1 (.int .i64 c2) (by omega)).next B9); clear kz0 kz1 oo0 oo1 oof; (have kz0 := KZ9.c0); (have kz1 := KZ9.c1); (have oo0 := M9.out.o.c0); (have oo1 := M9.out.o.c1); (have oof := M9.out.o.f)))
                have MF := Hid.mk (M9.out.setO e1 e2)
                go_roundw
                case rel => exact ⟨k + 1, true, e1, e2, by omega, rfl, by go_num, by rw [(HF2.out.1 (by first | rfl | trivial)).1, (HF2.out.1 (by first | rfl | trivial)).2]; exact MF.out, HWN.out, (fun h => nomatch h), (fun _ => (HMB.out (by first | rfl | trivial)).1 (by first | rfl | trivial)), HME.out⟩
                case measure => simp [intOf]; omega
end Go.Proofs.Ytngmaeinehfimaa
