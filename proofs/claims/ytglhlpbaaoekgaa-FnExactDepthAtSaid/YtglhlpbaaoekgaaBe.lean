/- Points covered by turned tris: the model. -/
import Derived.Test.YtglhlpbaaoekgaaBd
namespace Go.Proofs.Ytglhlpbaaoekgaa
open Go.ChangeShapes Go.WideShapes Go.ChangeAt Go.RowKit
set_option linter.unusedVariables false
/-- A turned tri covers a point. -/
def cvB (ux uy vx vy sx sy x y : Int) : Bool := wiB ux uy vx vy x y && (wiB vx vy sx sy x y && wiB sx sy ux uy x y)
set_option maxHeartbeats 8000000 in
theorem mcovers (ux uy uz vx vy vz sx sy sz kr kg kb ka x y : Int) (w : World) (hA : ptB ux uy = true) (hB : ptB vx vy = true) (hC : ptB sx sy = true) (hx : ptB x y = true) : Calls Try.prog 62 #[.agg #[.int .i64 ux, .int .i64 uy, .int .i64 uz, .int .i64 vx, .int .i64 vy, .int .i64 vz, .int .i64 sx, .int .i64 sy, .int .i64 sz, .int .i64 kr, .int .i64 kg, .int .i64 kb, .int .i64 ka], .int .i64 x, .int .i64 y] w fun e w' => e = .returned (.bool (cvB ux uy vx vy sx sy x y)) ∧ Below w.heap.size w w' := by
  have H1 : Hid (∀ w', Calls Try.prog 93 #[.agg #[.int .i64 ux, .int .i64 uy, .int .i64 uz], .agg #[.int .i64 vx, .int .i64 vy, .int .i64 vz], .int .i64 x, .int .i64 y] w' fun e w'' => e = .returned (.bool (wiB ux uy vx vy x y)) ∧ Below w'.heap.size w' w'') := fun w' => mwithin _ _ _ _ _ _ _ _ w' hA hB hx
  have H2 : Hid (∀ w', Calls Try.prog 93 #[.agg #[.int .i64 vx, .int .i64 vy, .int .i64 vz], .agg #[.int .i64 sx, .int .i64 sy, .int .i64 sz], .int .i64 x, .int .i64 y] w' fun e w'' => e = .returned (.bool (wiB vx vy sx sy x y)) ∧ Below w'.heap.size w' w'') := fun w' => mwithin _ _ _ _ _ _ _ _ w' hB hC hx
  have H3 : Hid (∀ w', Calls Try.prog 93 #[.agg #[.int .i64 sx, .int .i64 sy, .int .i64 sz], .agg #[.int .i64 ux, .int .i64 uy, .int .i64 uz], .int .i64 x, .int .i64 y] w' fun e w'' => e = .returned (.bool (wiB sx sy ux uy x y)) ∧ Below w'.heap.size w' w'') := fun w' => mwithin _ _ _ _ _ _ _ _ w' hC hA hx
  have HW : Hid (∀ w', Below (w.alloc (.cells #[.int .i64 ux, .int .i64 uy, .int .i64 uz, .int .i64 vx, .int .i64 vy, .int .i64 vz, .int .i64 sx, .int .i64 sy, .int .i64 sz, .int .i64 kr, .int .i64 kg, .int .i64 kb, .int .i64 ka] 28)).heap.size (w.alloc (.cells #[.int .i64 ux, .int .i64 uy, .int .i64 uz, .int .i64 vx, .int .i64 vy, .int .i64 vz, .int .i64 sx, .int .i64 sy, .int .i64 sz, .int .i64 kr, .int .i64 kg, .int .i64 kb, .int .i64 ka] 28)) w' → C13 w' w.heap.size (.int .i64 ux) (.int .i64 uy) (.int .i64 uz) (.int .i64 vx) (.int .i64 vy) (.int .i64 vz) (.int .i64 sx) (.int .i64 sy) (.int .i64 sz) (.int .i64 kr) (.int .i64 kg) (.int .i64 kb) (.int .i64 ka) ∧ Below w.heap.size w w') := fun w' b => ⟨(C13.new w 28 (.int .i64 ux) (.int .i64 uy) (.int .i64 uz) (.int .i64 vx) (.int .i64 vy) (.int .i64 vz) (.int .i64 sx) (.int .i64 sy) (.int .i64 sz) (.int .i64 kr) (.int .i64 kg) (.int .i64 kb) (.int .i64 ka)).next b, alloc_b.trans (b.mono (by simp))⟩
  unfold cvB
  clear hA hB hC hx
  generalize wiB ux uy vx vy x y = c1 at H1
  generalize wiB vx vy sx sy x y = c2 at H2
  generalize wiB sx sy ux uy x y = c3 at H3
  cases c1
  case' true => cases c2
  case' true.true => cases c3
  all_goals
    simp only [Bool.and_true, Bool.and_false, Bool.false_and]
    go_enter Try.func62, Try.ntmps62
    go_wp2_with (first
    | (go_at_call 93; (with_reducible show Calls Try.prog 93 #[.agg #[.int .i64 ux, .int .i64 uy, .int .i64 uz], .agg #[.int .i64 vx, .int .i64 vy, .int .i64 vz], .int .i64 x, .int .i64 y] _ _); refine (H1.out _).mono ?_; rintro e w2 ⟨rfl, Bw2⟩; obtain ⟨P2, D2⟩ := HW.out _ Bw2; clear HW; have p0 := P2.c0; have p1 := P2.c1; have p2 := P2.c2; have p3 := P2.c3; have p4 := P2.c4; have p5 := P2.c5; have p6 := P2.c6; have p7 := P2.c7; have p8 := P2.c8; have p9 := P2.c9; have p10 := P2.c10; have p11 := P2.c11; have p12 := P2.c12; have pf := P2.f)
    | (go_at_call 93; (with_reducible show Calls Try.prog 93 #[.agg #[.int .i64 vx, .int .i64 vy, .int .i64 vz], .agg #[.int .i64 sx, .int .i64 sy, .int .i64 sz], .int .i64 x, .int .i64 y] _ _); refine (H2.out _).mono ?_; rintro e w3 ⟨rfl, Bw3⟩; have P3 := P2.next Bw3; have D3 := D2.trans (Bw3.mono D2.size); clear p0; clear p1; clear p2; clear p3; clear p4; clear p5; clear p6; clear p7; clear p8; clear p9; clear p10; clear p11; clear p12; clear pf; clear P2 D2 Bw3; have p0 := P3.c0; have p1 := P3.c1; have p2 := P3.c2; have p3 := P3.c3; have p4 := P3.c4; have p5 := P3.c5; have p6 := P3.c6; have p7 := P3.c7; have p8 := P3.c8; have p9 := P3.c9; have p10 := P3.c10; have p11 := P3.c11; have p12 := P3.c12; have pf := P3.f)
    | (go_at_call 93; (with_reducible show Calls Try.prog 93 #[.agg #[.int .i64 sx, .int .i64 sy, .int .i64 sz], .agg #[.int .i64 ux, .int .i64 uy, .int .i64 uz], .int .i64 x, .int .i64 y] _ _); refine (H3.out _).mono ?_; rintro e w4 ⟨rfl, Bw4⟩; have P4 := P3.next Bw4; have D4 := D3.trans (Bw4.mono D3.size); clear p0; clear p1; clear p2; clear p3; clear p4; clear p5; clear p6; clear p7; clear p8; clear p9; clear p10; clear p11; clear p12; clear pf; clear P3 D3 Bw4; have p0 := P4.c0; have p1 := P4.c1; have p2 := P4.c2; have p3 := P4.c3; have p4 := P4.c4; have p5 := P4.c5; have p6 := P4.c6; have p7 := P4.c7; have p8 := P4.c8; have p9 := P4.c9; have p10 := P4.c10; have p11 := P4.c11; have p12 := P4.c12; have pf := P4.f))
    go_ret
    first | exact ⟨rfl, D4⟩ | exact ⟨rfl, D3⟩ | exact ⟨rfl, D2⟩
end Go.Proofs.Ytglhlpbaaoekgaa
