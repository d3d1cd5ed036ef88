/- CoversPoint of both sides. -/
import Derived.Test.YtglhlpbaaoekgaaCe
import Derived.Test.YtglhlpbaaoekgaaCf
import Derived.Test.YtglhlpbaaoekgaaCg
namespace Go.Proofs.Ytglhlpbaaoekgaa
open Go.ChangeShapes Go.WideShapes Go.ChangeAt Go.RowKit
set_option linter.unusedVariables false
/-- A tri, turned, covers a point. -/
def tuB (ux uy uz vx vy vz sx sy sz kr kg kb ka x y : Int) : Bool := match decide (arI ux uy vx vy sx sy < 0) with
  | true => cvB ux uy sx sy vx vy x y
  | false => cvB ux uy vx vy sx sy x y
/-- What CoversPoint answers. -/
def cpB (ux uy uz vx vy vz sx sy sz kr kg kb ka x y : Int) : Bool := trB ux uy uz vx vy vz sx sy sz kr kg kb ka && (!decide (arI ux uy vx vy sx sy = 0) && (ptB x y && tuB ux uy uz vx vy vz sx sy sz kr kg kb ka x y))
set_option maxRecDepth 100000 in
set_option maxHeartbeats 8000000 in
theorem mcp (ux uy uz vx vy vz sx sy sz kr kg kb ka x y : Int) (w : World) : Calls Try.prog 24 #[.agg #[.int .i64 ux, .int .i64 uy, .int .i64 uz, .int .i64 vx, .int .i64 vy, .int .i64 vz, .int .i64 sx, .int .i64 sy, .int .i64 sz, .int .i64 kr, .int .i64 kg, .int .i64 kb, .int .i64 ka], .int .i64 x, .int .i64 y] w fun e w' => e = .returned (.bool (cpB ux uy uz vx vy vz sx sy sz kr kg kb ka x y)) ∧ Below w.heap.size w w' := by
  have HG : Hid (∀ w', Calls Try.prog 17 #[.agg #[.int .i64 ux, .int .i64 uy, .int .i64 uz, .int .i64 vx, .int .i64 vy, .int .i64 vz, .int .i64 sx, .int .i64 sy, .int .i64 sz, .int .i64 kr, .int .i64 kg, .int .i64 kb, .int .i64 ka]] w' fun e w'' => e = .returned (.bool (trB ux uy uz vx vy vz sx sy sz kr kg kb ka)) ∧ Below w'.heap.size w' w'') := fun w' => mgoodtri ux uy uz vx vy vz sx sy sz kr kg kb ka w'
  have HP : Hid (∀ w', Calls Try.prog 61 #[.int .i64 x, .int .i64 y] w' fun e w'' => e = .returned (.bool (ptB x y)) ∧ w'' = w') := fun w' => mpoint x y w'
  have HW : Hid (∀ w', Below (w.alloc (.cells #[.int .i64 ux, .int .i64 uy, .int .i64 uz, .int .i64 vx, .int .i64 vy, .int .i64 vz, .int .i64 sx, .int .i64 sy, .int .i64 sz, .int .i64 kr, .int .i64 kg, .int .i64 kb, .int .i64 ka] 28)).heap.size (w.alloc (.cells #[.int .i64 ux, .int .i64 uy, .int .i64 uz, .int .i64 vx, .int .i64 vy, .int .i64 vz, .int .i64 sx, .int .i64 sy, .int .i64 sz, .int .i64 kr, .int .i64 kg, .int .i64 kb, .int .i64 ka] 28)) w' → C13 w' w.heap.size (.int .i64 ux) (.int .i64 uy) (.int .i64 uz) (.int .i64 vx) (.int .i64 vy) (.int .i64 vz) (.int .i64 sx) (.int .i64 sy) (.int .i64 sz) (.int .i64 kr) (.int .i64 kg) (.int .i64 kb) (.int .i64 ka) ∧ Below w.heap.size w w') := fun w' b => ⟨(C13.new w 28 (.int .i64 ux) (.int .i64 uy) (.int .i64 uz) (.int .i64 vx) (.int .i64 vy) (.int .i64 vz) (.int .i64 sx) (.int .i64 sy) (.int .i64 sz) (.int .i64 kr) (.int .i64 kg) (.int .i64 kb) (.int .i64 ka)).next b, alloc_b.trans (b.mono (by simp))⟩
  unfold cpB
  obtain ⟨tb, htb⟩ : ∃ b, trB ux uy uz vx vy vz sx sy sz kr kg kb ka = b := ⟨_, rfl⟩
  rw [htb] at HG ⊢
  cases tb
  case false =>
    clear HP htb
    simp only [Bool.false_and]
    go_enter Try.func24, Try.ntmps24
    go_wp2_with (first | (go_at_call 17; (with_reducible show Calls Try.prog 17 #[.agg #[.int .i64 ux, .int .i64 uy, .int .i64 uz, .int .i64 vx, .int .i64 vy, .int .i64 vz, .int .i64 sx, .int .i64 sy, .int .i64 sz, .int .i64 kr, .int .i64 kg, .int .i64 kb, .int .i64 ka]] _ _); refine (HG.out _).mono ?_; rintro e w2 ⟨rfl, B2⟩; obtain ⟨P2, D2⟩ := HW.out _ B2; clear HW; (have p0 := P2.c0); (have p1 := P2.c1); (have p2 := P2.c2); (have p3 := P2.c3); (have p4 := P2.c4); (have p5 := P2.c5); (have p6 := P2.c6); (have p7 := P2.c7); (have p8 := P2.c8); (have p9 := P2.c9); (have p10 := P2.c10); (have p11 := P2.c11); (have p12 := P2.c12); (have pf := P2.f)))
    go_ret
    exact ⟨rfl, D2⟩
  have HA : Hid (∀ w', Calls Try.prog 55 #[.agg #[.int .i64 ux, .int .i64 uy, .int .i64 uz, .int .i64 vx, .int .i64 vy, .int .i64 vz, .int .i64 sx, .int .i64 sy, .int .i64 sz, .int .i64 kr, .int .i64 kg, .int .i64 kb, .int .i64 ka]] w' fun e w'' => e = .returned (.int .i64 (arI ux uy vx vy sx sy)) ∧ Below w'.heap.size w' w'') := fun w' => marea ux uy uz vx vy vz sx sy sz kr kg kb ka w' htb
  by_cases h0 : arI ux uy vx vy sx sy = 0
  case pos =>
    rw [h0] at HA
    rw [decide_eq_true h0]
    clear HP htb h0
    simp only [Bool.not_true, Bool.false_and, Bool.and_false]
    go_enter Try.func24, Try.ntmps24
    go_wp2_with (first | (go_at_call 17; (with_reducible show Calls Try.prog 17 #[.agg #[.int .i64 ux, .int .i64 uy, .int .i64 uz, .int .i64 vx, .int .i64 vy, .int .i64 vz, .int .i64 sx, .int .i64 sy, .int .i64 sz, .int .i64 kr, .int .i64 kg, .int .i64 kb, .int .i64 ka]] _ _); refine (HG.out _).mono ?_; rintro e w2 ⟨rfl, B2⟩; obtain ⟨P2, D2⟩ := HW.out _ B2; clear HW; (have p0 := P2.c0); (have p1 := P2.c1); (have p2 := P2.c2); (have p3 := P2.c3); (have p4 := P2.c4); (have p5 := P2.c5); (have p6 := P2.c6); (have p7 := P2.c7); (have p8 := P2.c8); (have p9 := P2.c9); (have p10 := P2.c10); (have p11 := P2.c11); (have p12 := P2.c12); (have pf := P2.f)) | (go_at_call 55; (with_reducible show Calls Try.prog 55 #[.agg #[.int .i64 ux, .int .i64 uy, .int .i64 uz, .int .i64 vx, .int .i64 vy, .int .i64 vz, .int .i64 sx, .int .i64 sy, .int .i64 sz, .int .i64 kr, .int .i64 kg, .int .i64 kb, .int .i64 ka]] _ _); refine (HA.out _).mono ?_; rintro e w3 ⟨rfl, B3⟩; (have P3 := P2.next B3); (have D3 := D2.trans (B3.mono D2.size)); clear p0 p1 p2 p3 p4 p5 p6 p7 p8 p9 p10 p11 p12 pf; clear P2 D2 B3; (have p0 := P3.c0); (have p1 := P3.c1); (have p2 := P3.c2); (have p3 := P3.c3); (have p4 := P3.c4); (have p5 := P3.c5); (have p6 := P3.c6); (have p7 := P3.c7); (have p8 := P3.c8); (have p9 := P3.c9); (have p10 := P3.c10); (have p11 := P3.c11); (have p12 := P3.c12); (have pf := P3.f)))
    go_ret
    exact ⟨rfl, D3⟩
  rw [decide_eq_false h0]
  simp only [Bool.not_false, Bool.true_and]
  obtain ⟨pb, hpb⟩ : ∃ b, ptB x y = b := ⟨_, rfl⟩
  rw [hpb] at HP ⊢
  have hne : (arI ux uy vx vy sx sy == 0) = false := by simp; exact h0
  have hnn : (arI ux uy vx vy sx sy != 0) = true := by simp; exact h0
  cases pb
  case false =>
    generalize arI ux uy vx vy sx sy = ar at HA hne hnn h0
    clear htb hpb
    simp only [Bool.false_and]
    go_enter Try.func24, Try.ntmps24
    go_wp2_with (first | (go_at_call 17; (with_reducible show Calls Try.prog 17 #[.agg #[.int .i64 ux, .int .i64 uy, .int .i64 uz, .int .i64 vx, .int .i64 vy, .int .i64 vz, .int .i64 sx, .int .i64 sy, .int .i64 sz, .int .i64 kr, .int .i64 kg, .int .i64 kb, .int .i64 ka]] _ _); refine (HG.out _).mono ?_; rintro e w2 ⟨rfl, B2⟩; obtain ⟨P2, D2⟩ := HW.out _ B2; clear HW; (have p0 := P2.c0); (have p1 := P2.c1); (have p2 := P2.c2); (have p3 := P2.c3); (have p4 := P2.c4); (have p5 := P2.c5); (have p6 := P2.c6); (have p7 := P2.c7); (have p8 := P2.c8); (have p9 := P2.c9); (have p10 := P2.c10); (have p11 := P2.c11); (have p12 := P2.c12); (have pf := P2.f)) | (go_at_call 55; (with_reducible show Calls Try.prog 55 #[.agg #[.int .i64 ux, .int .i64 uy, .int .i64 uz, .int .i64 vx, .int .i64 vy, .int .i64 vz, .int .i64 sx, .int .i64 sy, .int .i64 sz, .int .i64 kr, .int .i64 kg, .int .i64 kb, .int .i64 ka]] _ _); refine (HA.out _).mono ?_; rintro e w3 ⟨rfl, B3⟩; (have P3 := P2.next B3); (have D3 := D2.trans (B3.mono D2.size)); clear p0 p1 p2 p3 p4 p5 p6 p7 p8 p9 p10 p11 p12 pf; clear P2 D2 B3; (have p0 := P3.c0); (have p1 := P3.c1); (have p2 := P3.c2); (have p3 := P3.c3); (have p4 := P3.c4); (have p5 := P3.c5); (have p6 := P3.c6); (have p7 := P3.c7); (have p8 := P3.c8); (have p9 := P3.c9); (have p10 := P3.c10); (have p11 := P3.c11); (have p12 := P3.c12); (have pf := P3.f)) | (go_at_call 61; refine (HP.out _).mono ?_; rintro e w9 ⟨rfl, hw⟩; subst w9))
    go_ret
    exact ⟨rfl, D3⟩
  obtain ⟨q1, q2, q3, _⟩ := tr_pt htb
  unfold tuB
  by_cases hs : arI ux uy vx vy sx sy < 0
  case pos =>
    have HT : Hid (∀ w', Calls Try.prog 63 #[.agg #[.int .i64 ux, .int .i64 uy, .int .i64 uz, .int .i64 vx, .int .i64 vy, .int .i64 vz, .int .i64 sx, .int .i64 sy, .int .i64 sz, .int .i64 kr, .int .i64 kg, .int .i64 kb, .int .i64 ka]] w' fun e w'' => e = .returned (.agg #[.int .i64 ux, .int .i64 uy, .int .i64 uz, .int .i64 sx, .int .i64 sy, .int .i64 sz, .int .i64 vx, .int .i64 vy, .int .i64 vz, .int .i64 kr, .int .i64 kg, .int .i64 kb, .int .i64 ka]) ∧ Below w'.heap.size w' w'') := fun w' => mturned_neg ux uy uz vx vy vz sx sy sz kr kg kb ka w' htb hs
    have HC : Hid (∀ w', Calls Try.prog 62 #[.agg #[.int .i64 ux, .int .i64 uy, .int .i64 uz, .int .i64 sx, .int .i64 sy, .int .i64 sz, .int .i64 vx, .int .i64 vy, .int .i64 vz, .int .i64 kr, .int .i64 kg, .int .i64 kb, .int .i64 ka], .int .i64 x, .int .i64 y] w' fun e w'' => e = .returned (.bool (cvB ux uy sx sy vx vy x y)) ∧ Below w'.heap.size w' w'') := fun w' => mcovers ux uy uz sx sy sz vx vy vz kr kg kb ka x y w' q1 q3 q2 hpb
    rw [decide_eq_true hs]
    simp only []
    generalize cvB ux uy sx sy vx vy x y = cb at HC
    generalize arI ux uy vx vy sx sy = ar at HA hne hnn h0 hs
    clear htb hpb hs q1 q2 q3
    go_enter Try.func24, Try.ntmps24
    go_wp2_with (first | (go_at_call 17; (with_reducible show Calls Try.prog 17 #[.agg #[.int .i64 ux, .int .i64 uy, .int .i64 uz, .int .i64 vx, .int .i64 vy, .int .i64 vz, .int .i64 sx, .int .i64 sy, .int .i64 sz, .int .i64 kr, .int .i64 kg, .int .i64 kb, .int .i64 ka]] _ _); refine (HG.out _).mono ?_; rintro e w2 ⟨rfl, B2⟩; obtain ⟨P2, D2⟩ := HW.out _ B2; clear HW; (have p0 := P2.c0); (have p1 := P2.c1); (have p2 := P2.c2); (have p3 := P2.c3); (have p4 := P2.c4); (have p5 := P2.c5); (have p6 := P2.c6); (have p7 := P2.c7); (have p8 := P2.c8); (have p9 := P2.c9); (have p10 := P2.c10); (have p11 := P2.c11); (have p12 := P2.c12); (have pf := P2.f)) | (go_at_call 55; (with_reducible show Calls Try.prog 55 #[.agg #[.int .i64 ux, .int .i64 uy, .int .i64 uz, .int .i64 vx, .int .i64 vy, .int .i64 vz, .int .i64 sx, .int .i64 sy, .int .i64 sz, .int .i64 kr, .int .i64 kg, .int .i64 kb, .int .i64 ka]] _ _); refine (HA.out _).mono ?_; rintro e w3 ⟨rfl, B3⟩; (have P3 := P2.next B3); (have D3 := D2.trans (B3.mono D2.size)); clear p0 p1 p2 p3 p4 p5 p6 p7 p8 p9 p10 p11 p12 pf; clear P2 D2 B3; (have p0 := P3.c0); (have p1 := P3.c1); (have p2 := P3.c2); (have p3 := P3.c3); (have p4 := P3.c4); (have p5 := P3.c5); (have p6 := P3.c6); (have p7 := P3.c7); (have p8 := P3.c8); (have p9 := P3.c9); (have p10 := P3.c10); (have p11 := P3.c11); (have p12 := P3.c12); (have pf := P3.f)) | (go_at_call 61; refine (HP.out _).mono ?_; rintro e w9 ⟨rfl, hw⟩; subst w9) | (go_at_call 63; (with_reducible show Calls Try.prog 63 #[.agg #[.int .i64 ux, .int .i64 uy, .int .i64 uz, .int .i64 vx, .int .i64 vy, .int .i64 vz, .int .i64 sx, .int .i64 sy, .int .i64 sz, .int .i64 kr, .int .i64 kg, .int .i64 kb, .int .i64 ka]] _ _); refine (HT.out _).mono ?_; rintro e w4 ⟨rfl, B4⟩; (have P4 := P3.next B4); (have D4 := D3.trans (B4.mono D3.size)); clear p0 p1 p2 p3 p4 p5 p6 p7 p8 p9 p10 p11 p12 pf; clear P3 D3 B4; (have p0 := P4.c0); (have p1 := P4.c1); (have p2 := P4.c2); (have p3 := P4.c3); (have p4 := P4.c4); (have p5 := P4.c5); (have p6 := P4.c6); (have p7 := P4.c7); (have p8 := P4.c8); (have p9 := P4.c9); (have p10 := P4.c10); (have p11 := P4.c11); (have p12 := P4.c12); (have pf := P4.f)) | (go_at_call 62; refine (HC.out _).mono ?_; rintro e w5 ⟨rfl, B5⟩; (have D5 := D4.trans (B5.mono D4.size))))
    go_ret
    exact ⟨rfl, D5⟩
  case neg =>
    have HT : Hid (∀ w', Calls Try.prog 63 #[.agg #[.int .i64 ux, .int .i64 uy, .int .i64 uz, .int .i64 vx, .int .i64 vy, .int .i64 vz, .int .i64 sx, .int .i64 sy, .int .i64 sz, .int .i64 kr, .int .i64 kg, .int .i64 kb, .int .i64 ka]] w' fun e w'' => e = .returned (.agg #[.int .i64 ux, .int .i64 uy, .int .i64 uz, .int .i64 vx, .int .i64 vy, .int .i64 vz, .int .i64 sx, .int .i64 sy, .int .i64 sz, .int .i64 kr, .int .i64 kg, .int .i64 kb, .int .i64 ka]) ∧ Below w'.heap.size w' w'') := fun w' => mturned_pos ux uy uz vx vy vz sx sy sz kr kg kb ka w' htb hs
    have HC : Hid (∀ w', Calls Try.prog 62 #[.agg #[.int .i64 ux, .int .i64 uy, .int .i64 uz, .int .i64 vx, .int .i64 vy, .int .i64 vz, .int .i64 sx, .int .i64 sy, .int .i64 sz, .int .i64 kr, .int .i64 kg, .int .i64 kb, .int .i64 ka], .int .i64 x, .int .i64 y] w' fun e w'' => e = .returned (.bool (cvB ux uy vx vy sx sy x y)) ∧ Below w'.heap.size w' w'') := fun w' => mcovers ux uy uz vx vy vz sx sy sz kr kg kb ka x y w' q1 q2 q3 hpb
    rw [decide_eq_false hs]
    simp only []
    generalize cvB ux uy vx vy sx sy x y = cb at HC
    generalize arI ux uy vx vy sx sy = ar at HA hne hnn h0 hs
    clear htb hpb hs q1 q2 q3
    go_enter Try.func24, Try.ntmps24
    go_wp2_with (first | (go_at_call 17; (with_reducible show Calls Try.prog 17 #[.agg #[.int .i64 ux, .int .i64 uy, .int .i64 uz, .int .i64 vx, .int .i64 vy, .int .i64 vz, .int .i64 sx, .int .i64 sy, .int .i64 sz, .int .i64 kr, .int .i64 kg, .int .i64 kb, .int .i64 ka]] _ _); refine (HG.out _).mono ?_; rintro e w2 ⟨rfl, B2⟩; obtain ⟨P2, D2⟩ := HW.out _ B2; clear HW; (have p0 := P2.c0); (have p1 := P2.c1); (have p2 := P2.c2); (have p3 := P2.c3); (have p4 := P2.c4); (have p5 := P2.c5); (have p6 := P2.c6); (have p7 := P2.c7); (have p8 := P2.c8); (have p9 := P2.c9); (have p10 := P2.c10); (have p11 := P2.c11); (have p12 := P2.c12); (have pf := P2.f)) | (go_at_call 55; (with_reducible show Calls Try.prog 55 #[.agg #[.int .i64 ux, .int .i64 uy, .int .i64 uz, .int .i64 vx, .int .i64 vy, .int .i64 vz, .int .i64 sx, .int .i64 sy, .int .i64 sz, .int .i64 kr, .int .i64 kg, .int .i64 kb, .int .i64 ka]] _ _); refine (HA.out _).mono ?_; rintro e w3 ⟨rfl, B3⟩; (have P3 := P2.next B3); (have D3 := D2.trans (B3.mono D2.size)); clear p0 p1 p2 p3 p4 p5 p6 p7 p8 p9 p10 p11 p12 pf; clear P2 D2 B3; (have p0 := P3.c0); (have p1 := P3.c1); (have p2 := P3.c2); (have p3 := P3.c3); (have p4 := P3.c4); (have p5 := P3.c5); (have p6 := P3.c6); (have p7 := P3.c7); (have p8 := P3.c8); (have p9 := P3.c9); (have p10 := P3.c10); (have p11 := P3.c11); (have p12 := P3.c12); (have pf := P3.f)) | (go_at_call 61; refine (HP.out _).mono ?_; rintro e w9 ⟨rfl, hw⟩; subst w9) | (go_at_call 63; (with_reducible show Calls Try.prog 63 #[.agg #[.int .i64 ux, .int .i64 uy, .int .i64 uz, .int .i64 vx, .int .i64 vy, .int .i64 vz, .int .i64 sx, .int .i64 sy, .int .i64 sz, .int .i64 kr, .int .i64 kg, .int .i64 kb, .int .i64 ka]] _ _); refine (HT.out _).mono ?_; rintro e w4 ⟨rfl, B4⟩; (have P4 := P3.next B4); (have D4 := D3.trans (B4.mono D3.size)); clear p0 p1 p2 p3 p4 p5 p6 p7 p8 p9 p10 p11 p12 pf; clear P3 D3 B4; (have p0 := P4.c0); (have p1 := P4.c1); (have p2 := P4.c2); (have p3 := P4.c3); (have p4 := P4.c4); (have p5 := P4.c5); (have p6 := P4.c6); (have p7 := P4.c7); (have p8 := P4.c8); (have p9 := P4.c9); (have p10 := P4.c10); (have p11 := P4.c11); (have p12 := P4.c12); (have pf := P4.f)) | (go_at_call 62; refine (HC.out _).mono ?_; rintro e w5 ⟨rfl, B5⟩; (have D5 := D4.trans (B5.mono D4.size))))
    go_ret
    exact ⟨rfl, D5⟩
end Go.Proofs.Ytglhlpbaaoekgaa
