/- The first hit of a ray: the model and the program. -/
import Derived.Test.YtngmaeinehfimaaMj
namespace Go.Proofs.Ytngmaeinehfimaa
open Go.ChangeShapes Go.WideShapes Go.ChangeAt Go.RowKit
set_option linter.unusedVariables false
theorem HV.one {B : Nat} {w : World} {r : Value} {M : List TupH} (h : HV B w r M) (hm : 0 < M.length) : ∃ g c, r = .slice (some ⟨g, 0, none⟩) M.length c ∧ g < w.heap.size ∧ B ≤ g ∧ w.cell? ⟨g, 0, none⟩ = some (.int .i64 (atH0 M 0)) ∧ w.cell? ⟨g, 1, none⟩ = some (.int .i64 (atH1 M 0)) ∧ w.cell? ⟨g, 2, none⟩ = some (.int .i64 (atH2 M 0)) := by
  rcases h.1 with ⟨h0, _⟩ | ⟨g, c, rfl, R⟩
  · omega
  · refine ⟨g, c, rfl, R.hi, (h.2 g rfl).1, ?_, ?_, ?_⟩
    · simpa using R.c0 0 hm
    · simpa using R.c1 0 hm
    · simpa using R.c2 0 hm
theorem HV.emp {B : Nat} {w : World} {r : Value} (h : HV B w r []) : ∃ a c, r = .slice a 0 c := by
  rcases h.1 with ⟨_, rfl⟩ | ⟨g, c, rfl, R⟩
  · exact ⟨_, _, rfl⟩
  · exact ⟨_, _, rfl⟩
theorem C3.put {w : World} {b : Nat} {v0 v1 v2 : Value} (h : C3 w b v0 v1 v2) (u0 u1 u2 : Value) : C3 (((w.setCell ⟨b, 0, Option.none⟩ u0).setCell ⟨b, 1, Option.none⟩ u1).setCell ⟨b, 2, Option.none⟩ u2) b u0 u1 u2 := by
  have e0 := h.c0
  have e1 := h.c1
  have e2 := h.c2
  refine ⟨?_, ?_, ?_, fun i => by simp [h.f i], by simpa using h.hi⟩
  · rw [World.cell?_setCell_other (h := addr_ne (by decide)), World.cell?_setCell_other (h := addr_ne (by decide))]
    exact World.cell?_setCell_same' _ _ _ (by rw [e0]; rfl)
  · rw [World.cell?_setCell_other (h := addr_ne (by decide))]
    exact World.cell?_setCell_same' _ _ _ (by rw [World.cell?_setCell_other (h := addr_ne (by decide)), e1]; rfl)
  · exact World.cell?_setCell_same' _ _ _ (by rw [World.cell?_setCell_other (h := addr_ne (by decide)), World.cell?_setCell_other (h := addr_ne (by decide)), e2]; rfl)
set_option maxRecDepth 100000 in
set_option maxHeartbeats 4000000 in
theorem mfirst (v x y : Value) (L : List TB) (F W : List Int) (w : World) (U : BRow w v L) (X : ARow w x F) (Y : ARow w y W) (hl : L.length ≤ 9223372036854775807) (hx : ∀ i, i < L.length → (tb L i).1.length ≤ 9223372036854775807 ∧ (tb L i).2.length ≤ 9223372036854775807) (hf : F.length ≤ 9223372036854775807) (hw : W.length ≤ 9223372036854775807) : Calls Try.prog 24 #[v, .agg #[x, y]] w fun e w' => e = .returned (.tuple #[.agg #[.int .i64 (atH0 (alH L F W) 0), .int .i64 (atH1 (alH L F W) 0), .int .i64 (atH2 (alH L F W) 0)], .bool (decide (0 < (alH L F W).length))]) ∧ Below w.heap.size w w' := by
  have HB1 : Hid (∀ w', Below w.heap.size w w' → Calls Try.prog 56 #[v] w' fun e w'' => e = .returned (.bool (absB L)) ∧ Below w'.heap.size w' w'') := fun w' b => mblocks v L w' (U.next b) hl hx
  have HB2 : Hid (∀ w', Below w.heap.size w w' → Calls Try.prog 17 #[.agg #[x, y]] w' fun e w'' => e = .returned (.bool (grB F W)) ∧ Below w'.heap.size w' w'') := fun w' b => mgoodr x y F W w' (X.next b) (Y.next b) hf hw
  have HM : Hid (absB L = true → grB F W = true → ∀ w', Below w.heap.size w w' → Calls Try.prog 57 #[v, .agg #[x, y]] w' fun e w'' => ∃ r, e = .returned r ∧ HV w'.heap.size w'' r (alH L F W) ∧ Below w'.heap.size w' w'') := fun hb hr w' b => (mall v x y L F W w' (U.next b) (X.next b) (Y.next b) hb hr).mono fun e w2 ⟨r, h1, h2, h3⟩ => ⟨r, h1, by unfold alH; rw [hb, hr]; exact h2.hv, h3⟩
  have HN : Hid ((absB L && grB F W) = false → alH L F W = []) := fun h => by unfold alH; rw [h]
  obtain ⟨ad, c, rfl, -⟩ := U
  obtain ⟨fd, fc, rfl, -⟩ := X
  obtain ⟨gd, gc, rfl, -⟩ := Y
  generalize L.length = n at HB1 HM hl hx ⊢
  generalize F.length = fl at HB2 HM hf ⊢
  generalize W.length = gl at HB2 HM hw ⊢
  generalize alH L F W = M at HM HN ⊢
  obtain ⟨W0, hW0⟩ : ∃ W0, (w.alloc (.cells #[.slice fd fl fc, .slice gd gl gc] 35)).alloc (.cells #[.int .i64 0, .int .i64 0, .int .i64 0] 45) = W0 := ⟨_, rfl⟩
  have BW : Below w.heap.size w W0 := by rw [← hW0]; exact (alloc_b).trans ((alloc_b).mono (by simp))
  have CR : C2 W0 w.heap.size (.slice fd fl fc) (.slice gd gl gc) := by rw [← hW0]; exact (C2.new w _ _ _).next alloc_b
  have CZ : C3 W0 (w.heap.size + 1) (.int .i64 0) (.int .i64 0) (.int .i64 0) := by
    have h := C3.new (w.alloc (.cells #[.slice fd fl fc, .slice gd gl gc] 35)) 45 (.int .i64 0) (.int .i64 0) (.int .i64 0)
    rw [hW0] at h
    simpa only [World.size_alloc] using h
  have C1 := HB1.out W0 BW
  clear HB1 hl hx hf hw
  cases hb : absB L
  · rw [hb] at C1 HN
    have HN2 : Hid (M = []) := HN.out rfl
    clear HB2 HM HN hb
    go_enter Try.func24, Try.ntmps24
    go_wp2_with (go_at_call 56; refine C1.mono ?_; rintro e w2 ⟨rfl, B2⟩; (have BW2 := BW.trans (B2.mono BW.size)); (have CR2 := CR.next B2); (have CZ2 := CZ.next B2); (have r0 := CR2.c0); (have r1 := CR2.c1); (have z0 := CZ2.c0); (have z1 := CZ2.c1); (have z2 := CZ2.c2); (have zf := CZ2.f))
    have ZF := CZ2.put (.int .i64 0) (.int .i64 0) (.int .i64 0)
    have q0 := ZF.c0
    have q1 := ZF.c1
    have q2 := ZF.c2
    exact bodyPost_ret (v := .tuple #[.agg #[.int .i64 0, .int .i64 0, .int .i64 0], .bool false]) (by simp [results, Try.results24, go_sem, q0, q1, q2]) rfl ⟨by rw [HN2.out]; rfl, (((BW2.setCell (p := ⟨w.heap.size + 1, 0, none⟩) (by simp) _).setCell (p := ⟨w.heap.size + 1, 1, none⟩) (by simp) _).setCell (p := ⟨w.heap.size + 1, 2, none⟩) (by simp) _)⟩
  rw [hb] at C1 HN
  have HM := Hid.mk (HM.out hb)
  cases hr : grB F W
  · rw [hr] at HB2 HN
    have HN2 : Hid (M = []) := HN.out rfl
    clear HM HN hb hr
    go_enter Try.func24, Try.ntmps24
    go_wp2_with (first | (go_at_call 56; refine C1.mono ?_; rintro e w2 ⟨rfl, B2⟩; (have BW2 := BW.trans (B2.mono BW.size)); (have CR2 := CR.next B2); (have CZ2 := CZ.next B2); (have r0 := CR2.c0); (have r1 := CR2.c1); (have z0 := CZ2.c0); (have z1 := CZ2.c1); (have z2 := CZ2.c2); (have zf := CZ2.f)) | (go_at_call 17; refine (HB2.out _ BW2).mono ?_; rintro e w3 ⟨rfl, B3⟩; (have BW3 := BW2.trans (B3.mono BW2.size)); (have CR3 := CR2.next B3); (have CZ3 := CZ2.next B3); clear r0 r1 z0 z1 z2 zf; (have r0 := CR3.c0); (have r1 := CR3.c1); (have z0 := CZ3.c0); (have z1 := CZ3.c1); (have z2 := CZ3.c2); (have zf := CZ3.f)))
    have ZF := CZ3.put (.int .i64 0) (.int .i64 0) (.int .i64 0)
    have q0 := ZF.c0
    have q1 := ZF.c1
    have q2 := ZF.c2
    exact bodyPost_ret (v := .tuple #[.agg #[.int .i64 0, .int .i64 0, .int .i64 0], .bool false]) (by simp [results, Try.results24, go_sem, q0, q1, q2]) rfl ⟨by rw [HN2.out]; rfl, (((BW3.setCell (p := ⟨w.heap.size + 1, 0, none⟩) (by simp) _).setCell (p := ⟨w.heap.size + 1, 1, none⟩) (by simp) _).setCell (p := ⟨w.heap.size + 1, 2, none⟩) (by simp) _)⟩
  rw [hr] at HB2
  have HM2 := Hid.mk (HM.out hr)
  clear HM HN hb hr
  by_cases hm : 0 < M.length
  · rw [decide_eq_true hm]
    have hm2 : ¬ (M.length : Int) = 0 := by omega
    have hm3 : (0 : Int) < (M.length : Int) := by omega
    have HL := Hid.mk hm
    go_enter Try.func24, Try.ntmps24
    go_wp2_with (first | (go_at_call 56; refine C1.mono ?_; rintro e w2 ⟨rfl, B2⟩; (have BW2 := BW.trans (B2.mono BW.size)); (have CR2 := CR.next B2); (have CZ2 := CZ.next B2); (have r0 := CR2.c0); (have r1 := CR2.c1); (have z0 := CZ2.c0); (have z1 := CZ2.c1); (have z2 := CZ2.c2); (have zf := CZ2.f)) | (go_at_call 17; refine (HB2.out _ BW2).mono ?_; rintro e w3 ⟨rfl, B3⟩; (have BW3 := BW2.trans (B3.mono BW2.size)); (have CR3 := CR2.next B3); (have CZ3 := CZ2.next B3); clear r0 r1 z0 z1 z2 zf; (have r0 := CR3.c0); (have r1 := CR3.c1); (have z0 := CZ3.c0); (have z1 := CZ3.c1); (have z2 := CZ3.c2); (have zf := CZ3.f)) | (go_at_call 57; refine (HM2.out _ BW3).mono ?_; rintro e w4 ⟨r, rfl, HR4, B4⟩; (have BW4 := BW3.trans (B4.mono BW3.size)); (have CZ4 := CZ3.next B4); clear r0 r1 z0 z1 z2 zf; (have z0 := CZ4.c0); (have z1 := CZ4.c1); (have z2 := CZ4.c2); (have zf := CZ4.f); (obtain ⟨g4, c4, rfl, hg4, hg5, k0, k1, k2⟩ := HR4.one hm); clear HR4))
    have ZF := CZ4.put (.int .i64 (atH0 M 0)) (.int .i64 (atH1 M 0)) (.int .i64 (atH2 M 0))
    have q0 := ZF.c0
    have q1 := ZF.c1
    have q2 := ZF.c2
    exact bodyPost_ret (v := .tuple #[.agg #[.int .i64 (atH0 M 0), .int .i64 (atH1 M 0), .int .i64 (atH2 M 0)], .bool true]) (by simp [results, Try.results24, go_sem, q0, q1, q2]) rfl ⟨by first | rfl | simp, (((BW4.setCell (p := ⟨w.heap.size + 1, 0, none⟩) (by simp) _).setCell (p := ⟨w.heap.size + 1, 1, none⟩) (by simp) _).setCell (p := ⟨w.heap.size + 1, 2, none⟩) (by simp) _)⟩
  · rw [decide_eq_false hm]
    have hm0 : M = [] := List.length_eq_zero_iff.1 (by omega)
    subst hm0
    clear hm
    go_enter Try.func24, Try.ntmps24
    go_wp2_with (first | (go_at_call 56; refine C1.mono ?_; rintro e w2 ⟨rfl, B2⟩; (have BW2 := BW.trans (B2.mono BW.size)); (have CR2 := CR.next B2); (have CZ2 := CZ.next B2); (have r0 := CR2.c0); (have r1 := CR2.c1); (have z0 := CZ2.c0); (have z1 := CZ2.c1); (have z2 := CZ2.c2); (have zf := CZ2.f)) | (go_at_call 17; refine (HB2.out _ BW2).mono ?_; rintro e w3 ⟨rfl, B3⟩; (have BW3 := BW2.trans (B3.mono BW2.size)); (have CR3 := CR2.next B3); (have CZ3 := CZ2.next B3); clear r0 r1 z0 z1 z2 zf; (have r0 := CR3.c0); (have r1 := CR3.c1); (have z0 := CZ3.c0); (have z1 := CZ3.c1); (have z2 := CZ3.c2); (have zf := CZ3.f)) | (go_at_call 57; refine (HM2.out _ BW3).mono ?_; rintro e w4 ⟨r, rfl, HR4, B4⟩; (have BW4 := BW3.trans (B4.mono BW3.size)); (have CZ4 := CZ3.next B4); clear r0 r1 z0 z1 z2 zf; (have z0 := CZ4.c0); (have z1 := CZ4.c1); (have z2 := CZ4.c2); (have zf := CZ4.f); (obtain ⟨a4, c4, rfl⟩ := HR4.emp); clear HR4))
    have ZF := CZ4.put (.int .i64 0) (.int .i64 0) (.int .i64 0)
    have q0 := ZF.c0
    have q1 := ZF.c1
    have q2 := ZF.c2
    exact bodyPost_ret (v := .tuple #[.agg #[.int .i64 0, .int .i64 0, .int .i64 0], .bool false]) (by simp [results, Try.results24, go_sem, q0, q1, q2]) rfl ⟨by first | rfl | simp, (((BW4.setCell (p := ⟨w.heap.size + 1, 0, none⟩) (by simp) _).setCell (p := ⟨w.heap.size + 1, 1, none⟩) (by simp) _).setCell (p := ⟨w.heap.size + 1, 2, none⟩) (by simp) _)⟩
set_option maxRecDepth 100000 in
set_option maxHeartbeats 4000000 in
theorem pfirst (v x y : Value) (L : List TB) (F W : List Int) (w : World) (U : BRow w v L) (X : ARow w x F) (Y : ARow w y W) (hl : L.length ≤ 9223372036854775807) (hx : ∀ i, i < L.length → (tb L i).1.length ≤ 9223372036854775807 ∧ (tb L i).2.length ≤ 9223372036854775807) (hf : F.length ≤ 9223372036854775807) (hw : W.length ≤ 9223372036854775807) : Calls Try.prog 26 #[v, .agg #[x, y]] w fun e w' => e = .returned (.tuple #[.agg #[.int .i64 (atH0 (alH L F W) 0), .int .i64 (atH1 (alH L F W) 0), .int .i64 (atH2 (alH L F W) 0)], .bool (decide (0 < (alH L F W).length))]) ∧ Below w.heap.size w w' := by
  have HM : Hid (∀ w', Below w.heap.size w w' → Calls Try.prog 42 #[v, .agg #[x, y]] w' fun e w'' => ∃ r, e = .returned (.tuple #[r, .bool (absB L && grB F W)]) ∧ HV w'.heap.size w'' r (alH L F W) ∧ Below w'.heap.size w' w'') := fun w' b => pallh v x y L F W w' (U.next b) (X.next b) (Y.next b) hl hx hf hw
  have HN : Hid ((absB L && grB F W) = false → alH L F W = []) := fun h => by unfold alH; rw [h]
  obtain ⟨ad, c, rfl, -⟩ := U
  obtain ⟨fd, fc, rfl, -⟩ := X
  obtain ⟨gd, gc, rfl, -⟩ := Y
  generalize L.length = n at HM hl hx ⊢
  generalize F.length = fl at HM hf ⊢
  generalize W.length = gl at HM hw ⊢
  generalize alH L F W = M at HM HN ⊢
  generalize (absB L && grB F W) = ok at HM HN
  obtain ⟨W0, hW0⟩ : ∃ W0, (w.alloc (.cells #[.slice fd fl fc, .slice gd gl gc] 35)).alloc (.cells #[.int .i64 0, .int .i64 0, .int .i64 0] 45) = W0 := ⟨_, rfl⟩
  have BW : Below w.heap.size w W0 := by rw [← hW0]; exact (alloc_b).trans ((alloc_b).mono (by simp))
  have CR : C2 W0 w.heap.size (.slice fd fl fc) (.slice gd gl gc) := by rw [← hW0]; exact (C2.new w _ _ _).next alloc_b
  have CZ : C3 W0 (w.heap.size + 1) (.int .i64 0) (.int .i64 0) (.int .i64 0) := by
    have h := C3.new (w.alloc (.cells #[.slice fd fl fc, .slice gd gl gc] 35)) 45 (.int .i64 0) (.int .i64 0) (.int .i64 0)
    rw [hW0] at h
    simpa only [World.size_alloc] using h
  have C1 := HM.out W0 BW
  have r0 := CR.c0
  have r1 := CR.c1
  clear HM hl hx hf hw
  cases ok
  · have HN2 : Hid (M = []) := HN.out rfl
    clear HN
    go_enter Try.func26, Try.ntmps26
    go_wp2_with (go_at_call 42; refine C1.mono ?_; rintro e w2 ⟨r, rfl, -, B2⟩; (have BW2 := BW.trans (B2.mono BW.size)); (have CZ2 := CZ.next B2); clear r0 r1; (have z0 := CZ2.c0); (have z1 := CZ2.c1); (have z2 := CZ2.c2); (have zf := CZ2.f))
    have ZF := CZ2.put (.int .i64 0) (.int .i64 0) (.int .i64 0)
    have q0 := ZF.c0
    have q1 := ZF.c1
    have q2 := ZF.c2
    exact bodyPost_ret (v := .tuple #[.agg #[.int .i64 0, .int .i64 0, .int .i64 0], .bool false]) (by simp [results, Try.results26, go_sem, q0, q1, q2]) rfl ⟨by rw [HN2.out]; rfl, (((BW2.setCell (p := ⟨w.heap.size + 1, 0, none⟩) (by simp) _).setCell (p := ⟨w.heap.size + 1, 1, none⟩) (by simp) _).setCell (p := ⟨w.heap.size + 1, 2, none⟩) (by simp) _)⟩
  clear HN
  by_cases hm : 0 < M.length
  · rw [decide_eq_true hm]
    have hm2 : ¬ (M.length : Int) = 0 := by omega
    have hm3 : (0 : Int) < (M.length : Int) := by omega
    have HL := Hid.mk hm
    go_enter Try.func26, Try.ntmps26
    go_wp2_with (go_at_call 42; refine C1.mono ?_; rintro e w2 ⟨r, rfl, HR4, B2⟩; (have BW2 := BW.trans (B2.mono BW.size)); (have CZ2 := CZ.next B2); clear r0 r1; (have z0 := CZ2.c0); (have z1 := CZ2.c1); (have z2 := CZ2.c2); (have zf := CZ2.f); (obtain ⟨g4, c4, rfl, hg4, hg5, k0, k1, k2⟩ := HR4.one hm); clear HR4)
    have ZF := CZ2.put (.int .i64 (atH0 M 0)) (.int .i64 (atH1 M 0)) (.int .i64 (atH2 M 0))
    have q0 := ZF.c0
    have q1 := ZF.c1
    have q2 := ZF.c2
    exact bodyPost_ret (v := .tuple #[.agg #[.int .i64 (atH0 M 0), .int .i64 (atH1 M 0), .int .i64 (atH2 M 0)], .bool true]) (by simp [results, Try.results26, go_sem, q0, q1, q2]) rfl ⟨by first | rfl | simp, (((BW2.setCell (p := ⟨w.heap.size + 1, 0, none⟩) (by simp) _).setCell (p := ⟨w.heap.size + 1, 1, none⟩) (by simp) _).setCell (p := ⟨w.heap.size + 1, 2, none⟩) (by simp) _)⟩
  · rw [decide_eq_false hm]
    have hm0 : M = [] := List.length_eq_zero_iff.1 (by omega)
    subst hm0
    clear hm
    go_enter Try.func26, Try.ntmps26
    go_wp2_with (go_at_call 42; refine C1.mono ?_; rintro e w2 ⟨r, rfl, HR4, B2⟩; (have BW2 := BW.trans (B2.mono BW.size)); (have CZ2 := CZ.next B2); clear r0 r1; (have z0 := CZ2.c0); (have z1 := CZ2.c1); (have z2 := CZ2.c2); (have zf := CZ2.f); (obtain ⟨a4, c4, rfl⟩ := HR4.emp); clear HR4)
    have ZF := CZ2.put (.int .i64 0) (.int .i64 0) (.int .i64 0)
    have q0 := ZF.c0
    have q1 := ZF.c1
    have q2 := ZF.c2
    exact bodyPost_ret (v := .tuple #[.agg #[.int .i64 0, .int .i64 0, .int .i64 0], .bool false]) (by simp [results, Try.results26, go_sem, q0, q1, q2]) rfl ⟨by first | rfl | simp, (((BW2.setCell (p := ⟨w.heap.size + 1, 0, none⟩) (by simp) _).setCell (p := ⟨w.heap.size + 1, 1, none⟩) (by simp) _).setCell (p := ⟨w.heap.size + 1, 2, none⟩) (by simp) _)⟩
end Go.Proofs.Ytngmaeinehfimaa
