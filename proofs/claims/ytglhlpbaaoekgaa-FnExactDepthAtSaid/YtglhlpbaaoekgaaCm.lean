/- DepthAt of the model. -/
import Derived.Test.YtglhlpbaaoekgaaCl
namespace Go.Proofs.Ytglhlpbaaoekgaa
open Go.ChangeShapes Go.WideShapes Go.ChangeAt Go.RowKit
set_option linter.unusedVariables false
/-- What DepthAt answers. -/
def dpB (ux uy uz vx vy vz sx sy sz kr kg kb ka x y : Int) : Bool := trB ux uy uz vx vy vz sx sy sz kr kg kb ka && (!decide (arI ux uy vx vy sx sy = 0) && ptB x y)
def dpV (ux uy uz vx vy vz sx sy sz kr kg kb ka x y : Int) : Int := match dpB ux uy uz vx vy vz sx sy sz kr kg kb ka x y with
  | false => 0
  | true => match decide (arI ux uy vx vy sx sy < 0) with
    | true => (uz * nmI sx sy vx vy x y + sz * nmI vx vy ux uy x y + vz * nmI ux uy sx sy x y) / (-(arI ux uy vx vy sx sy))
    | false => (uz * nmI vx vy sx sy x y + vz * nmI sx sy ux uy x y + sz * nmI ux uy vx vy x y) / (arI ux uy vx vy sx sy)
set_option maxRecDepth 100000 in
set_option maxHeartbeats 8000000 in
theorem mdp (ux uy uz vx vy vz sx sy sz kr kg kb ka x y : Int) (w : World) : Calls Try.prog 29 #[.agg #[.int .i64 ux, .int .i64 uy, .int .i64 uz, .int .i64 vx, .int .i64 vy, .int .i64 vz, .int .i64 sx, .int .i64 sy, .int .i64 sz, .int .i64 kr, .int .i64 kg, .int .i64 kb, .int .i64 ka], .int .i64 x, .int .i64 y] w fun e w' => e = .returned (.tuple #[.int .i64 (dpV ux uy uz vx vy vz sx sy sz kr kg kb ka x y), .bool (dpB ux uy uz vx vy vz sx sy sz kr kg kb ka x y)]) ∧ Below w.heap.size w w' := by
  have HG : Hid (∀ w', Calls Try.prog 17 #[.agg #[.int .i64 ux, .int .i64 uy, .int .i64 uz, .int .i64 vx, .int .i64 vy, .int .i64 vz, .int .i64 sx, .int .i64 sy, .int .i64 sz, .int .i64 kr, .int .i64 kg, .int .i64 kb, .int .i64 ka]] w' fun e w'' => e = .returned (.bool (trB ux uy uz vx vy vz sx sy sz kr kg kb ka)) ∧ Below w'.heap.size w' w'') := fun w' => mgoodtri ux uy uz vx vy vz sx sy sz kr kg kb ka w'
  have HP : Hid (∀ w', Calls Try.prog 61 #[.int .i64 x, .int .i64 y] w' fun e w'' => e = .returned (.bool (ptB x y)) ∧ w'' = w') := fun w' => mpoint x y w'
  have HW : Hid (∀ w', Below (w.alloc (.cells #[.int .i64 ux, .int .i64 uy, .int .i64 uz, .int .i64 vx, .int .i64 vy, .int .i64 vz, .int .i64 sx, .int .i64 sy, .int .i64 sz, .int .i64 kr, .int .i64 kg, .int .i64 kb, .int .i64 ka] 28)).heap.size (w.alloc (.cells #[.int .i64 ux, .int .i64 uy, .int .i64 uz, .int .i64 vx, .int .i64 vy, .int .i64 vz, .int .i64 sx, .int .i64 sy, .int .i64 sz, .int .i64 kr, .int .i64 kg, .int .i64 kb, .int .i64 ka] 28)) w' → C13 w' w.heap.size (.int .i64 ux) (.int .i64 uy) (.int .i64 uz) (.int .i64 vx) (.int .i64 vy) (.int .i64 vz) (.int .i64 sx) (.int .i64 sy) (.int .i64 sz) (.int .i64 kr) (.int .i64 kg) (.int .i64 kb) (.int .i64 ka) ∧ Below w.heap.size w w') := fun w' b => ⟨(C13.new w 28 (.int .i64 ux) (.int .i64 uy) (.int .i64 uz) (.int .i64 vx) (.int .i64 vy) (.int .i64 vz) (.int .i64 sx) (.int .i64 sy) (.int .i64 sz) (.int .i64 kr) (.int .i64 kg) (.int .i64 kb) (.int .i64 ka)).next b, alloc_b.trans (b.mono (by simp))⟩
  obtain ⟨tb, htb⟩ : ∃ b, trB ux uy uz vx vy vz sx sy sz kr kg kb ka = b := ⟨_, rfl⟩
  rw [htb] at HG
  cases tb
  case false =>
    have hd : dpB ux uy uz vx vy vz sx sy sz kr kg kb ka x y = false := by unfold dpB; rw [htb]; exact Bool.false_and _
    have hv : dpV ux uy uz vx vy vz sx sy sz kr kg kb ka x y = 0 := by unfold dpV; rw [hd]
    rw [hd, hv]
    clear HP htb hd hv
    go_enter Try.func29, Try.ntmps29
    go_wp2_with (first | (go_at_call 17; (with_reducible show Calls Try.prog 17 #[.agg #[.int .i64 ux, .int .i64 uy, .int .i64 uz, .int .i64 vx, .int .i64 vy, .int .i64 vz, .int .i64 sx, .int .i64 sy, .int .i64 sz, .int .i64 kr, .int .i64 kg, .int .i64 kb, .int .i64 ka]] _ _); refine (HG.out _).mono ?_; rintro e w2 ⟨rfl, B2⟩; obtain ⟨P2, D2⟩ := HW.out _ B2; clear HW; (have p0 := P2.c0); (have p1 := P2.c1); (have p2 := P2.c2); (have p3 := P2.c3); (have p4 := P2.c4); (have p5 := P2.c5); (have p6 := P2.c6); (have p7 := P2.c7); (have p8 := P2.c8); (have p9 := P2.c9); (have p10 := P2.c10); (have p11 := P2.c11); (have p12 := P2.c12); (have pf := P2.f)))
    exact bodyPost_ret (v := .tuple #[.int .i64 0, .bool false]) (by simp [results, Try.results29, go_sem]) rfl ⟨rfl, D2⟩
  have HA : Hid (∀ w', Calls Try.prog 55 #[.agg #[.int .i64 ux, .int .i64 uy, .int .i64 uz, .int .i64 vx, .int .i64 vy, .int .i64 vz, .int .i64 sx, .int .i64 sy, .int .i64 sz, .int .i64 kr, .int .i64 kg, .int .i64 kb, .int .i64 ka]] w' fun e w'' => e = .returned (.int .i64 (arI ux uy vx vy sx sy)) ∧ Below w'.heap.size w' w'') := fun w' => marea ux uy uz vx vy vz sx sy sz kr kg kb ka w' htb
  by_cases h0 : arI ux uy vx vy sx sy = 0
  case pos =>
    have hd : dpB ux uy uz vx vy vz sx sy sz kr kg kb ka x y = false := by unfold dpB; rw [decide_eq_true h0, Bool.not_true, Bool.false_and, Bool.and_false]
    have hv : dpV ux uy uz vx vy vz sx sy sz kr kg kb ka x y = 0 := by unfold dpV; rw [hd]
    rw [hd, hv]
    rw [h0] at HA
    clear HP htb h0 hd hv
    go_enter Try.func29, Try.ntmps29
    go_wp2_with (first | (go_at_call 17; (with_reducible show Calls Try.prog 17 #[.agg #[.int .i64 ux, .int .i64 uy, .int .i64 uz, .int .i64 vx, .int .i64 vy, .int .i64 vz, .int .i64 sx, .int .i64 sy, .int .i64 sz, .int .i64 kr, .int .i64 kg, .int .i64 kb, .int .i64 ka]] _ _); refine (HG.out _).mono ?_; rintro e w2 ⟨rfl, B2⟩; obtain ⟨P2, D2⟩ := HW.out _ B2; clear HW; (have p0 := P2.c0); (have p1 := P2.c1); (have p2 := P2.c2); (have p3 := P2.c3); (have p4 := P2.c4); (have p5 := P2.c5); (have p6 := P2.c6); (have p7 := P2.c7); (have p8 := P2.c8); (have p9 := P2.c9); (have p10 := P2.c10); (have p11 := P2.c11); (have p12 := P2.c12); (have pf := P2.f)) | (go_at_call 55; (with_reducible show Calls Try.prog 55 #[.agg #[.int .i64 ux, .int .i64 uy, .int .i64 uz, .int .i64 vx, .int .i64 vy, .int .i64 vz, .int .i64 sx, .int .i64 sy, .int .i64 sz, .int .i64 kr, .int .i64 kg, .int .i64 kb, .int .i64 ka]] _ _); refine (HA.out _).mono ?_; rintro e w3 ⟨rfl, B3⟩; (have P3 := P2.next B3); (have D3 := D2.trans (B3.mono D2.size)); clear p0 p1 p2 p3 p4 p5 p6 p7 p8 p9 p10 p11 p12 pf; clear P2 D2 B3; (have p0 := P3.c0); (have p1 := P3.c1); (have p2 := P3.c2); (have p3 := P3.c3); (have p4 := P3.c4); (have p5 := P3.c5); (have p6 := P3.c6); (have p7 := P3.c7); (have p8 := P3.c8); (have p9 := P3.c9); (have p10 := P3.c10); (have p11 := P3.c11); (have p12 := P3.c12); (have pf := P3.f)))
    exact bodyPost_ret (v := .tuple #[.int .i64 0, .bool false]) (by simp [results, Try.results29, go_sem]) rfl ⟨rfl, D3⟩
  obtain ⟨pb, hpb⟩ : ∃ b, ptB x y = b := ⟨_, rfl⟩
  rw [hpb] at HP
  have hne : (arI ux uy vx vy sx sy == 0) = false := by simp; exact h0
  have hd : dpB ux uy uz vx vy vz sx sy sz kr kg kb ka x y = pb := by unfold dpB; rw [htb, decide_eq_false h0, Bool.not_false, Bool.true_and, Bool.true_and, hpb]
  cases pb
  case false =>
    have hv : dpV ux uy uz vx vy vz sx sy sz kr kg kb ka x y = 0 := by unfold dpV; rw [hd]
    rw [hd, hv]
    generalize arI ux uy vx vy sx sy = ar at HA hne h0
    clear htb hpb hd hv
    go_enter Try.func29, Try.ntmps29
    go_wp2_with (first | (go_at_call 17; (with_reducible show Calls Try.prog 17 #[.agg #[.int .i64 ux, .int .i64 uy, .int .i64 uz, .int .i64 vx, .int .i64 vy, .int .i64 vz, .int .i64 sx, .int .i64 sy, .int .i64 sz, .int .i64 kr, .int .i64 kg, .int .i64 kb, .int .i64 ka]] _ _); refine (HG.out _).mono ?_; rintro e w2 ⟨rfl, B2⟩; obtain ⟨P2, D2⟩ := HW.out _ B2; clear HW; (have p0 := P2.c0); (have p1 := P2.c1); (have p2 := P2.c2); (have p3 := P2.c3); (have p4 := P2.c4); (have p5 := P2.c5); (have p6 := P2.c6); (have p7 := P2.c7); (have p8 := P2.c8); (have p9 := P2.c9); (have p10 := P2.c10); (have p11 := P2.c11); (have p12 := P2.c12); (have pf := P2.f)) | (go_at_call 55; (with_reducible show Calls Try.prog 55 #[.agg #[.int .i64 ux, .int .i64 uy, .int .i64 uz, .int .i64 vx, .int .i64 vy, .int .i64 vz, .int .i64 sx, .int .i64 sy, .int .i64 sz, .int .i64 kr, .int .i64 kg, .int .i64 kb, .int .i64 ka]] _ _); refine (HA.out _).mono ?_; rintro e w3 ⟨rfl, B3⟩; (have P3 := P2.next B3); (have D3 := D2.trans (B3.mono D2.size)); clear p0 p1 p2 p3 p4 p5 p6 p7 p8 p9 p10 p11 p12 pf; clear P2 D2 B3; (have p0 := P3.c0); (have p1 := P3.c1); (have p2 := P3.c2); (have p3 := P3.c3); (have p4 := P3.c4); (have p5 := P3.c5); (have p6 := P3.c6); (have p7 := P3.c7); (have p8 := P3.c8); (have p9 := P3.c9); (have p10 := P3.c10); (have p11 := P3.c11); (have p12 := P3.c12); (have pf := P3.f)) | (go_at_call 61; refine (HP.out _).mono ?_; rintro e w9 ⟨rfl, hw⟩; subst w9))
    exact bodyPost_ret (v := .tuple #[.int .i64 0, .bool false]) (by simp [results, Try.results29, go_sem]) rfl ⟨rfl, D3⟩
  by_cases hs : arI ux uy vx vy sx sy < 0
  case pos =>
    have hv : dpV ux uy uz vx vy vz sx sy sz kr kg kb ka x y = (uz * nmI sx sy vx vy x y + sz * nmI vx vy ux uy x y + vz * nmI ux uy sx sy x y) / (-(arI ux uy vx vy sx sy)) := by unfold dpV; rw [hd, decide_eq_true hs]
    rw [hd, hv]
    have HD : Hid (∀ w', Calls Try.prog 66 #[.agg #[.int .i64 ux, .int .i64 uy, .int .i64 uz, .int .i64 vx, .int .i64 vy, .int .i64 vz, .int .i64 sx, .int .i64 sy, .int .i64 sz, .int .i64 kr, .int .i64 kg, .int .i64 kb, .int .i64 ka], .int .i64 x, .int .i64 y] w' fun e w'' => e = .returned (.int .i64 ((uz * nmI sx sy vx vy x y + sz * nmI vx vy ux uy x y + vz * nmI ux uy sx sy x y) / (-(arI ux uy vx vy sx sy)))) ∧ Below w'.heap.size w' w'') := fun w' => mdepth_neg ux uy uz vx vy vz sx sy sz kr kg kb ka x y w' htb hs hpb
    clear hd hv
    generalize (uz * nmI sx sy vx vy x y + sz * nmI vx vy ux uy x y + vz * nmI ux uy sx sy x y) / (-(arI ux uy vx vy sx sy)) = V0 at HD ⊢
    generalize arI ux uy vx vy sx sy = ar at HA hne h0 hs
    clear htb hpb
    go_enter Try.func29, Try.ntmps29
    go_wp2_with (first | (go_at_call 17; (with_reducible show Calls Try.prog 17 #[.agg #[.int .i64 ux, .int .i64 uy, .int .i64 uz, .int .i64 vx, .int .i64 vy, .int .i64 vz, .int .i64 sx, .int .i64 sy, .int .i64 sz, .int .i64 kr, .int .i64 kg, .int .i64 kb, .int .i64 ka]] _ _); refine (HG.out _).mono ?_; rintro e w2 ⟨rfl, B2⟩; obtain ⟨P2, D2⟩ := HW.out _ B2; clear HW; (have p0 := P2.c0); (have p1 := P2.c1); (have p2 := P2.c2); (have p3 := P2.c3); (have p4 := P2.c4); (have p5 := P2.c5); (have p6 := P2.c6); (have p7 := P2.c7); (have p8 := P2.c8); (have p9 := P2.c9); (have p10 := P2.c10); (have p11 := P2.c11); (have p12 := P2.c12); (have pf := P2.f)) | (go_at_call 55; (with_reducible show Calls Try.prog 55 #[.agg #[.int .i64 ux, .int .i64 uy, .int .i64 uz, .int .i64 vx, .int .i64 vy, .int .i64 vz, .int .i64 sx, .int .i64 sy, .int .i64 sz, .int .i64 kr, .int .i64 kg, .int .i64 kb, .int .i64 ka]] _ _); refine (HA.out _).mono ?_; rintro e w3 ⟨rfl, B3⟩; (have P3 := P2.next B3); (have D3 := D2.trans (B3.mono D2.size)); clear p0 p1 p2 p3 p4 p5 p6 p7 p8 p9 p10 p11 p12 pf; clear P2 D2 B3; (have p0 := P3.c0); (have p1 := P3.c1); (have p2 := P3.c2); (have p3 := P3.c3); (have p4 := P3.c4); (have p5 := P3.c5); (have p6 := P3.c6); (have p7 := P3.c7); (have p8 := P3.c8); (have p9 := P3.c9); (have p10 := P3.c10); (have p11 := P3.c11); (have p12 := P3.c12); (have pf := P3.f)) | (go_at_call 61; refine (HP.out _).mono ?_; rintro e w9 ⟨rfl, hw⟩; subst w9) | (go_at_call 66; refine (HD.out _).mono ?_; rintro e w4 ⟨rfl, B4⟩))
    exact bodyPost_ret (v := .tuple #[.int .i64 V0, .bool true]) (by simp [results, Try.results29, go_sem]) rfl ⟨rfl, D3.trans (B4.mono D3.size)⟩
  case neg =>
    have hv : dpV ux uy uz vx vy vz sx sy sz kr kg kb ka x y = (uz * nmI vx vy sx sy x y + vz * nmI sx sy ux uy x y + sz * nmI ux uy vx vy x y) / (arI ux uy vx vy sx sy) := by unfold dpV; rw [hd, decide_eq_false hs]
    rw [hd, hv]
    have HD : Hid (∀ w', Calls Try.prog 66 #[.agg #[.int .i64 ux, .int .i64 uy, .int .i64 uz, .int .i64 vx, .int .i64 vy, .int .i64 vz, .int .i64 sx, .int .i64 sy, .int .i64 sz, .int .i64 kr, .int .i64 kg, .int .i64 kb, .int .i64 ka], .int .i64 x, .int .i64 y] w' fun e w'' => e = .returned (.int .i64 ((uz * nmI vx vy sx sy x y + vz * nmI sx sy ux uy x y + sz * nmI ux uy vx vy x y) / (arI ux uy vx vy sx sy))) ∧ Below w'.heap.size w' w'') := fun w' => mdepth_pos ux uy uz vx vy vz sx sy sz kr kg kb ka x y w' htb (by omega) hpb
    clear hd hv
    generalize (uz * nmI vx vy sx sy x y + vz * nmI sx sy ux uy x y + sz * nmI ux uy vx vy x y) / (arI ux uy vx vy sx sy) = V0 at HD ⊢
    generalize arI ux uy vx vy sx sy = ar at HA hne h0 hs
    clear htb hpb
    go_enter Try.func29, Try.ntmps29
    go_wp2_with (first | (go_at_call 17; (with_reducible show Calls Try.prog 17 #[.agg #[.int .i64 ux, .int .i64 uy, .int .i64 uz, .int .i64 vx, .int .i64 vy, .int .i64 vz, .int .i64 sx, .int .i64 sy, .int .i64 sz, .int .i64 kr, .int .i64 kg, .int .i64 kb, .int .i64 ka]] _ _); refine (HG.out _).mono ?_; rintro e w2 ⟨rfl, B2⟩; obtain ⟨P2, D2⟩ := HW.out _ B2; clear HW; (have p0 := P2.c0); (have p1 := P2.c1); (have p2 := P2.c2); (have p3 := P2.c3); (have p4 := P2.c4); (have p5 := P2.c5); (have p6 := P2.c6); (have p7 := P2.c7); (have p8 := P2.c8); (have p9 := P2.c9); (have p10 := P2.c10); (have p11 := P2.c11); (have p12 := P2.c12); (have pf := P2.f)) | (go_at_call 55; (with_reducible show Calls Try.prog 55 #[.agg #[.int .i64 ux, .int .i64 uy, .int .i64 uz, .int .i64 vx, .int .i64 vy, .int .i64 vz, .int .i64 sx, .int .i64 sy, .int .i64 sz, .int .i64 kr, .int .i64 kg, .int .i64 kb, .int .i64 ka]] _ _); refine (HA.out _).mono ?_; rintro e w3 ⟨rfl, B3⟩; (have P3 := P2.next B3); (have D3 := D2.trans (B3.mono D2.size)); clear p0 p1 p2 p3 p4 p5 p6 p7 p8 p9 p10 p11 p12 pf; clear P2 D2 B3; (have p0 := P3.c0); (have p1 := P3.c1); (have p2 := P3.c2); (have p3 := P3.c3); (have p4 := P3.c4); (have p5 := P3.c5); (have p6 := P3.c6); (have p7 := P3.c7); (have p8 := P3.c8); (have p9 := P3.c9); (have p10 := P3.c10); (have p11 := P3.c11); (have p12 := P3.c12); (have pf := P3.f)) | (go_at_call 61; refine (HP.out _).mono ?_; rintro e w9 ⟨rfl, hw⟩; subst w9) | (go_at_call 66; refine (HD.out _).mono ?_; rintro e w4 ⟨rfl, B4⟩))
    exact bodyPost_ret (v := .tuple #[.int .i64 V0, .bool true]) (by simp [results, Try.results29, go_sem]) rfl ⟨rfl, D3.trans (B4.mono D3.size)⟩
end Go.Proofs.Ytglhlpbaaoekgaa
