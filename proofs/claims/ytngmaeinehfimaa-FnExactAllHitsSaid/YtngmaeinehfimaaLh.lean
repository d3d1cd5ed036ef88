/- What a ray meets: the program, to the end. -/
import Derived.Test.YtngmaeinehfimaaLg
namespace Go.Proofs.Ytngmaeinehfimaa
open Go.ChangeShapes Go.WideShapes Go.ChangeAt Go.RowKit
set_option linter.unusedVariables false
/-- What stays and what changes while moments are looked for. -/
structure Mt (w : World) (ra rb ba bb : Value) (n d : Int) (v : World) : Prop where
  r : C2 v w.heap.size ra rb
  b : C2 v (w.heap.size + 1) ba bb
  z : C2 v (w.heap.size + 1 + 1) (.int .i64 0) (.int .i64 0)
  f : C2 v (w.heap.size + 1 + 1 + 1) (.int .i64 n) (.int .i64 d)
  w : Below w.heap.size w v
theorem Mt.next {w v v' : World} {ra rb ba bb : Value} {n d : Int} (h : Mt w ra rb ba bb n d v) (k : Below v.heap.size v v') : Mt w ra rb ba bb n d v' := ⟨h.r.next k, h.b.next k, h.z.next k, h.f.next k, h.w.trans (k.mono h.w.size)⟩
theorem Mt.set {w v : World} {ra rb ba bb : Value} {n d : Int} (h : Mt w ra rb ba bb n d v) (m e : Int) : Mt w ra rb ba bb m e ((v.setCell ⟨w.heap.size + 1 + 1 + 1, 0, none⟩ (.int .i64 m)).setCell ⟨w.heap.size + 1 + 1 + 1, 1, none⟩ (.int .i64 e)) :=
  ⟨(h.r.far _ _ _ (by omega)).far _ _ _ (by omega), (h.b.far _ _ _ (by omega)).far _ _ _ (by omega), (h.z.far _ _ _ (by omega)).far _ _ _ (by omega), (h.f.s0 _).s1 _, (h.w.setCell (p := ⟨w.heap.size + 1 + 1 + 1, 0, none⟩) (by simp; omega) _).setCell (p := ⟨w.heap.size + 1 + 1 + 1, 1, none⟩) (by simp; omega) _⟩
/-- What meets answers. -/
def hiN (L H F W : Nat → Int) : Int := rdN (fst L H F W 3).1 (fst L H F W 3).2
def hiD (L H F W : Nat → Int) : Int := rdD (fst L H F W 3).1 (fst L H F W 3).2
def hiV (L H F W : Nat → Int) : Value := match hiB L H F W with
  | true => .tuple #[.agg #[.int .i64 (hiN L H F W), .int .i64 (hiD L H F W)], .bool true]
  | false => .tuple #[.agg #[.int .i64 0, .int .i64 0], .bool false]
set_option maxRecDepth 100000 in
set_option maxHeartbeats 8000000 in
theorem pmeets (la ha fa wa : Value) (L H F W : Nat → Int) (w : World) (RL : R3 w la L) (RH : R3 w ha H) (RF : R3 w fa F) (RW : R3 w wa W) (iL : InC 3 L) (iH : InC 3 H) (iF : InC 3 F) (iW : InC 3 W) : Calls Try.prog 55 #[.agg #[fa, wa], .agg #[la, ha]] w fun e w' => e = .returned (hiV L H F W) ∧ Below w.heap.size w w' := by
  have HC : Hid (∀ k : Nat, k < 3 → ∀ w', Below w.heap.size w w' → Calls Try.prog 82 #[.agg #[fa, wa], .agg #[la, ha], .int .i64 k] w' fun e w'' => e = .returned (.agg #[.int .i64 (cN (L k) (H k) (F k) (W k)), .int .i64 (cD (W k))]) ∧ Below w'.heap.size w' w'') := fun k hk w' b => pcomes k hk la ha fa wa L H F W w' (RL.next b) (RH.next b) (RF.next b) (RW.next b) iL iH iF iW
  have HMk : Hid (∀ k : Nat, k ≤ 3 → MB (fst L H F W k).1 (fst L H F W k).2) := fun k hk => by
    have h := fst_bnd iL iH iF iW k hk
    have p := fst_pos L H F W k
    exact ⟨⟨by omega, h.2⟩, p.1, h.1⟩
  have HMc : Hid (∀ k : Nat, k < 3 → MB (cN (L k) (H k) (F k) (W k)) (cD (W k))) := fun k hk => ⟨cN_bnd (iL k hk) (iH k hk) (iF k hk), cD_pos _, cD_le (iW k hk)⟩
  have HWI : Hid (∀ w', Below w.heap.size w w' → Calls Try.prog 84 #[.agg #[fa, wa], .agg #[la, ha], .agg #[.int .i64 (fst L H F W 3).1, .int .i64 (fst L H F W 3).2]] w' fun e w'' => e = .returned (.bool (hiB L H F W)) ∧ Below w'.heap.size w' w'') := fun w' b => by unfold hiB; exact pwithin (fst L H F W 3).1 (fst L H F W 3).2 (HMk.out 3 (by omega)) la ha fa wa L H F W w' (RL.next b) (RH.next b) (RF.next b) (RW.next b) iL iH iF iW
  have HRD : Hid (∀ w', Calls Try.prog 85 #[.agg #[.int .i64 (fst L H F W 3).1, .int .i64 (fst L H F W 3).2]] w' fun e w'' => e = .returned (.agg #[.int .i64 (hiN L H F W), .int .i64 (hiD L H F W)]) ∧ Below w'.heap.size w' w'') := fun w' => by unfold hiN hiD; exact preduced (fst L H F W 3).1 (fst L H F W 3).2 w' ⟨(fst_pos L H F W 3).2, (HMk.out 3 (by omega)).1.2⟩ (HMk.out 3 (by omega)).2
  obtain ⟨Lg, Lo, Lc, rfl, -⟩ := RL
  obtain ⟨Hg, Ho, Hc, rfl, -⟩ := RH
  obtain ⟨Fg, Fo, Fc, rfl, -⟩ := RF
  obtain ⟨Wg, Wo, Wc, rfl, -⟩ := RW
  clear iL iH iF iW
  obtain ⟨V, hV⟩ : ∃ V, ((((w.alloc (.cells #[.slice (some ⟨Fg, Fo, none⟩) 3 Fc, .slice (some ⟨Wg, Wo, none⟩) 3 Wc] 35)).alloc (.cells #[.slice (some ⟨Lg, Lo, none⟩) 3 Lc, .slice (some ⟨Hg, Ho, none⟩) 3 Hc] 27)).alloc (.cells #[.int .i64 0, .int .i64 0] 85)).alloc (.cells #[.int .i64 0, .int .i64 1] 85)) = V := ⟨_, rfl⟩
  have BV : Below w.heap.size w V := by rw [← hV]; exact (((alloc_b).trans ((alloc_b).mono (by simp))).trans ((alloc_b).mono (by simp; omega))).trans ((alloc_b).mono (by simp; omega))
  have X0 : C2 V (w.heap.size) (.slice (some ⟨Fg, Fo, none⟩) 3 Fc) (.slice (some ⟨Wg, Wo, none⟩) 3 Wc) := by
    have h := (((C2.new w 35 (.slice (some ⟨Fg, Fo, none⟩) 3 Fc) (.slice (some ⟨Wg, Wo, none⟩) 3 Wc)).next (alloc_b (o := .cells #[.slice (some ⟨Lg, Lo, none⟩) 3 Lc, .slice (some ⟨Hg, Ho, none⟩) 3 Hc] 27))).next (alloc_b (o := .cells #[.int .i64 0, .int .i64 0] 85))).next (alloc_b (o := .cells #[.int .i64 0, .int .i64 1] 85))
    rw [hV] at h
    exact h
  have X1 : C2 V (w.heap.size + 1) (.slice (some ⟨Lg, Lo, none⟩) 3 Lc) (.slice (some ⟨Hg, Ho, none⟩) 3 Hc) := by
    have h := ((C2.new (w.alloc (.cells #[.slice (some ⟨Fg, Fo, none⟩) 3 Fc, .slice (some ⟨Wg, Wo, none⟩) 3 Wc] 35)) 27 (.slice (some ⟨Lg, Lo, none⟩) 3 Lc) (.slice (some ⟨Hg, Ho, none⟩) 3 Hc)).next (alloc_b (o := .cells #[.int .i64 0, .int .i64 0] 85))).next (alloc_b (o := .cells #[.int .i64 0, .int .i64 1] 85))
    rw [hV] at h
    simpa only [World.size_alloc] using h
  have X2 : C2 V (w.heap.size + 1 + 1) (.int .i64 0) (.int .i64 0) := by
    have h := (C2.new ((w.alloc (.cells #[.slice (some ⟨Fg, Fo, none⟩) 3 Fc, .slice (some ⟨Wg, Wo, none⟩) 3 Wc] 35)).alloc (.cells #[.slice (some ⟨Lg, Lo, none⟩) 3 Lc, .slice (some ⟨Hg, Ho, none⟩) 3 Hc] 27)) 85 (.int .i64 0) (.int .i64 0)).next (alloc_b (o := .cells #[.int .i64 0, .int .i64 1] 85))
    rw [hV] at h
    simpa only [World.size_alloc] using h
  have X3 : C2 V (w.heap.size + 1 + 1 + 1) (.int .i64 0) (.int .i64 1) := by
    have h := C2.new (((w.alloc (.cells #[.slice (some ⟨Fg, Fo, none⟩) 3 Fc, .slice (some ⟨Wg, Wo, none⟩) 3 Wc] 35)).alloc (.cells #[.slice (some ⟨Lg, Lo, none⟩) 3 Lc, .slice (some ⟨Hg, Ho, none⟩) 3 Hc] 27)).alloc (.cells #[.int .i64 0, .int .i64 0] 85)) 85 (.int .i64 0) (.int .i64 1)
    rw [hV] at h
    simpa only [World.size_alloc] using h
  have HVE := Hid.mk hV
  clear hV
  have HMT : Hid (Mt w (.slice (some ⟨Fg, Fo, none⟩) 3 Fc) (.slice (some ⟨Wg, Wo, none⟩) 3 Wc) (.slice (some ⟨Lg, Lo, none⟩) 3 Lc) (.slice (some ⟨Hg, Ho, none⟩) 3 Hc) 0 1 V) := ⟨X0, X1, X2, X3, BV⟩
  clear X0 X1 X2 X3 BV
  go_enter Try.func55, Try.ntmps55
  go_upto_region 2 with fail
  rw [HVE.out]
  clear HVE
  go_wp2
  go_loopw [10] (fun i wx => ∃ k : Nat, k ≤ 3 ∧ i = .int .i64 k ∧ Hid (Mt w (.slice (some ⟨Fg, Fo, none⟩) 3 Fc) (.slice (some ⟨Wg, Wo, none⟩) 3 Wc) (.slice (some ⟨Lg, Lo, none⟩) 3 Lc) (.slice (some ⟨Hg, Ho, none⟩) 3 Hc) (fst L H F W k).1 (fst L H F W k).2 wx)) (fun i _ => 3 - (intOf i).toNat)
  case atStart => exact ⟨0, Nat.zero_le _, rfl, HMT.out⟩
  case round =>
    obtain ⟨k, hk, rfl, HB⟩ := hrel
    clear HMT
    have r0 := HB.out.r.c0
    have r1 := HB.out.r.c1
    have b0 := HB.out.b.c0
    have b1 := HB.out.b.c1
    by_cases hkn : k < 3
    case neg =>
      obtain rfl : k = 3 := by omega
      have i1 : ¬ ((3 : Nat) : Int) < 3 := by omega
      have f0 := HB.out.f.c0
      have f1 := HB.out.f.c1
      have HV : Hid (hiV L H F W = match hiB L H F W with
        | true => .tuple #[.agg #[.int .i64 (hiN L H F W), .int .i64 (hiD L H F W)], .bool true]
        | false => .tuple #[.agg #[.int .i64 0, .int .i64 0], .bool false]) := rfl
      generalize hiB L H F W = hb at HWI HV
      cases hb
      · go_wp2_with (go_at_call 84; refine (HWI.out _ HB.out.w).mono ?_; rintro e w2 ⟨rfl, B2⟩; (have M2 := HB.out.next B2); (have z0 := M2.z.c0); (have z1 := M2.z.c1); (have zf := M2.z.f))
        have y0 := ((M2.z.s0 (.int .i64 0)).s1 (.int .i64 0)).c0
        have y1 := ((M2.z.s0 (.int .i64 0)).s1 (.int .i64 0)).c1
        exact bodyPost_ret (v := .tuple #[.agg #[.int .i64 0, .int .i64 0], .bool false]) (by simp [results, Try.results55, go_sem, y0, y1]) rfl ⟨by rw [HV.out], (M2.w.setCell (p := ⟨w.heap.size + 1 + 1, 0, none⟩) (by simp; omega) _).setCell (p := ⟨w.heap.size + 1 + 1, 1, none⟩) (by simp; omega) _⟩
      · go_wp2_with (first | (go_at_call 84; refine (HWI.out _ HB.out.w).mono ?_; rintro e w2 ⟨rfl, B2⟩; (have M2 := HB.out.next B2); clear f0 f1; (have f0 := M2.f.c0); (have f1 := M2.f.c1)) | (go_at_call 85; refine (HRD.out _).mono ?_; rintro e w3 ⟨rfl, B3⟩; (have M3 := M2.next B3); (have z0 := M3.z.c0); (have z1 := M3.z.c1); (have zf := M3.z.f)))
        have y0 := ((M3.z.s0 (.int .i64 (hiN L H F W))).s1 (.int .i64 (hiD L H F W))).c0
        have y1 := ((M3.z.s0 (.int .i64 (hiN L H F W))).s1 (.int .i64 (hiD L H F W))).c1
        exact bodyPost_ret (v := .tuple #[.agg #[.int .i64 (hiN L H F W), .int .i64 (hiD L H F W)], .bool true]) (by simp [results, Try.results55, go_sem, y0, y1]) rfl ⟨by rw [HV.out], (M3.w.setCell (p := ⟨w.heap.size + 1 + 1, 0, none⟩) (by simp; omega) _).setCell (p := ⟨w.heap.size + 1 + 1, 1, none⟩) (by simp; omega) _⟩
    have i1 : (k : Int) < 3 := by omega
    have i0 : (0 : Int) ≤ (k : Int) := by omega
    have HCk := Hid.mk (HC.out k hkn _ HB.out.w)
    have hmf := HMk.out k hk
    have hmc := HMc.out k hkn
    have HFN : Hid (fst L H F W (k + 1) = if (fst L H F W k).1 * cD (W k) < cN (L k) (H k) (F k) (W k) * (fst L H F W k).2 then (cN (L k) (H k) (F k) (W k), cD (W k)) else fst L H F W k) := rfl
    generalize cN (L k) (H k) (F k) (W k) = cn at HCk hmc HFN
    generalize cD (W k) = cd at HCk hmc HFN
    obtain ⟨n, hn⟩ : ∃ x, (fst L H F W k).1 = x := ⟨_, rfl⟩
    obtain ⟨d, hd⟩ : ∃ x, (fst L H F W k).2 = x := ⟨_, rfl⟩
    have HFK : Hid (fst L H F W k = (n, d)) := by show _ = _; rw [← hn, ← hd]
    rw [hn, hd] at HB hmf HFN
    clear hn hd
    have HCP : Hid (∀ w', Calls Try.prog 83 #[.agg #[.int .i64 cn, .int .i64 cd], .agg #[.int .i64 n, .int .i64 d]] w' fun r w'' => r = .returned (.int .i64 (cmS (cn * d) (n * cd))) ∧ Below w'.heap.size w' w'') := fun w' => pcompare cn cd n d w' hmc hmf
    have hsp := @cmS_pos (cn * d) (n * cd)
    generalize cmS (cn * d) (n * cd) = s at HCP hsp
    clear hmf hmc
    have A8 : ∀ v : World, v.alloc (.cells #[.int .i64 cn, .int .i64 cd] 85) = v.alloc (.cells #[.int .i64 cn, .int .i64 cd] 85) := fun _ => rfl
    clear A8
    by_cases hs : 0 < s
    · have HN : Hid (fst L H F W (k + 1) = (cn, cd)) := by show _ = _; rw [HFN.out, if_pos (hsp.1 hs)]
      clear hsp HFN
      go_wp2_with (first | (go_at_call 82; refine HCk.out.mono ?_; rintro e w2 ⟨rfl, B2⟩; (have M2 := Hid.mk ((HB.out.next B2).next (alloc_b (o := .cells #[.int .i64 cn, .int .i64 cd] 85)))); (have f0 := M2.out.f.c0); (have f1 := M2.out.f.c1)) | (go_at_call 83; refine (HCP.out _).mono ?_; rintro e w3 ⟨rfl, B3⟩; (have M3 := Hid.mk (M2.out.next B3)); (have K3 := (C2.new w2 85 (.int .i64 cn) (.int .i64 cd)).next B3); (have q0 := K3.c0); (have q1 := K3.c1); clear f0 f1; (have f0 := M3.out.f.c0); (have f1 := M3.out.f.c1); (have ff := M3.out.f.f)))
      have MN := Hid.mk (M3.out.set cn cd)
      go_roundw
      case rel => exact ⟨k + 1, by omega, by go_num, by rw [HN.out]; exact MN.out⟩
      case measure => simp [intOf]; omega
    · have HN : Hid (fst L H F W (k + 1) = (n, d)) := by show _ = _; rw [HFN.out, if_neg (fun h => hs (hsp.2 h))]; exact HFK.out
      clear hsp HFN
      go_wp2_with (first | (go_at_call 82; refine HCk.out.mono ?_; rintro e w2 ⟨rfl, B2⟩; (have M2 := Hid.mk ((HB.out.next B2).next (alloc_b (o := .cells #[.int .i64 cn, .int .i64 cd] 85)))); (have f0 := M2.out.f.c0); (have f1 := M2.out.f.c1)) | (go_at_call 83; refine (HCP.out _).mono ?_; rintro e w3 ⟨rfl, B3⟩; (have M3 := Hid.mk (M2.out.next B3))))
      go_roundw
      case rel => exact ⟨k + 1, by omega, by go_num, by rw [HN.out]; exact M3.out⟩
      case measure => simp [intOf]; omega
end Go.Proofs.Ytngmaeinehfimaa
