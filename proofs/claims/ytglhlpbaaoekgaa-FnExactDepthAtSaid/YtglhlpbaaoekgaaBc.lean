/- Numbers of points by edges; GoodTri and AreaOf of both sides. -/
import Derived.Test.YtglhlpbaaoekgaaBb
namespace Go.Proofs.Ytglhlpbaaoekgaa
open Go.ChangeShapes Go.WideShapes Go.ChangeAt Go.RowKit
set_option linter.unusedVariables false
theorem mul_bnd {a b : Int} (ha : -8192 ≤ a ∧ a ≤ 8192) (hb : -8192 ≤ b ∧ b ≤ 8192) : -67108864 ≤ a * b ∧ a * b ≤ 67108864 := by
  have h : (a * b).natAbs ≤ 8192 * 8192 := by
    rw [Int.natAbs_mul]
    exact Nat.mul_le_mul (by omega) (by omega)
  omega
/-- The number of a point by the edge from p to q. -/
def nmI (px py qx qy x y : Int) : Int := (qx - px) * (y - py) - (qy - py) * (x - px)
theorem nm_bnd {px py qx qy x y : Int} (hp : ptB px py = true) (hq : ptB qx qy = true) (hx : ptB x y = true) : -134217728 ≤ nmI px py qx qy x y ∧ nmI px py qx qy x y ≤ 134217728 := by
  have h1 := ptB_iff.1 hp
  have h2 := ptB_iff.1 hq
  have h3 := ptB_iff.1 hx
  have k1 := mul_bnd (a := qx - px) (b := y - py) (by omega) (by omega)
  have k2 := mul_bnd (a := qy - py) (b := x - px) (by omega) (by omega)
  unfold nmI
  omega
set_option maxHeartbeats 2000000 in
theorem mnum (px py pz qx qy qz x y : Int) (w : World) (hp : ptB px py = true) (hq : ptB qx qy = true) (hx : ptB x y = true) : Calls Try.prog 95 #[.agg #[.int .i64 px, .int .i64 py, .int .i64 pz], .agg #[.int .i64 qx, .int .i64 qy, .int .i64 qz], .int .i64 x, .int .i64 y] w fun e w' => e = .returned (.int .i64 (nmI px py qx qy x y)) ∧ Below w.heap.size w w' := by
  have h1 := ptB_iff.1 hp
  have h2 := ptB_iff.1 hq
  have h3 := ptB_iff.1 hx
  have k1 := mul_bnd (a := qx - px) (b := y - py) (by omega) (by omega)
  have k2 := mul_bnd (a := qy - py) (b := x - px) (by omega) (by omega)
  unfold nmI
  clear hp hq hx
  go_enter Try.func95, Try.ntmps95
  go_wp2
  go_ret
  exact ⟨rfl, b2⟩
set_option maxHeartbeats 2000000 in
theorem pnum (px py pz qx qy qz x y : Int) (w : World) (hp : ptB px py = true) (hq : ptB qx qy = true) (hx : ptB x y = true) : Calls Try.prog 60 #[.agg #[.int .i64 px, .int .i64 py, .int .i64 pz, .int .i64 qx, .int .i64 qy, .int .i64 qz], .int .i64 x, .int .i64 y] w fun e w' => e = .returned (.int .i64 (nmI px py qx qy x y)) ∧ Below w.heap.size w w' := by
  have h1 := ptB_iff.1 hp
  have h2 := ptB_iff.1 hq
  have h3 := ptB_iff.1 hx
  have k1 := mul_bnd (a := qx - px) (b := y - py) (by omega) (by omega)
  have k2 := mul_bnd (a := qy - py) (b := x - px) (by omega) (by omega)
  unfold nmI
  clear hp hq hx
  go_enter Try.func60, Try.ntmps60
  go_wp2
  go_ret
  exact ⟨rfl, alloc_b⟩
/-- A tri's area, twice, with a sign. -/
def arI (ux uy vx vy sx sy : Int) : Int := nmI ux uy vx vy sx sy
theorem cn_pt {x y z : Int} (h : cnB x y z = true) : ptB x y = true := by unfold cnB at h; rw [Bool.and_eq_true] at h; exact h.1
theorem tr_pt {ux uy uz vx vy vz sx sy sz kr kg kb ka : Int} (h : trB ux uy uz vx vy vz sx sy sz kr kg kb ka = true) : ptB ux uy = true ∧ ptB vx vy = true ∧ ptB sx sy = true ∧ inZ uz = true ∧ inZ vz = true ∧ inZ sz = true ∧ gdC kr kg kb ka = true := by
  unfold trB cnB at h
  simp only [Bool.and_eq_true] at h
  exact ⟨h.1.1, h.2.1.1, h.2.2.1.1, h.1.2, h.2.1.2, h.2.2.1.2, h.2.2.2⟩
set_option maxHeartbeats 2000000 in
theorem marea (ux uy uz vx vy vz sx sy sz kr kg kb ka : Int) (w : World) (h : trB ux uy uz vx vy vz sx sy sz kr kg kb ka = true) : Calls Try.prog 55 #[.agg #[.int .i64 ux, .int .i64 uy, .int .i64 uz, .int .i64 vx, .int .i64 vy, .int .i64 vz, .int .i64 sx, .int .i64 sy, .int .i64 sz, .int .i64 kr, .int .i64 kg, .int .i64 kb, .int .i64 ka]] w fun e w' => e = .returned (.int .i64 (arI ux uy vx vy sx sy)) ∧ Below w.heap.size w w' := by
  obtain ⟨hp, hq, hx, _⟩ := tr_pt h
  have h1 := ptB_iff.1 hp
  have h2 := ptB_iff.1 hq
  have h3 := ptB_iff.1 hx
  have k1 := mul_bnd (a := vx - ux) (b := sy - uy) (by omega) (by omega)
  have k2 := mul_bnd (a := vy - uy) (b := sx - ux) (by omega) (by omega)
  unfold arI nmI
  clear hp hq hx h
  go_enter Try.func55, Try.ntmps55
  go_wp2
  go_ret
  exact ⟨rfl, alloc_b⟩
set_option maxHeartbeats 8000000 in
theorem mgoodtri (ux uy uz vx vy vz sx sy sz kr kg kb ka : Int) (w : World) : Calls Try.prog 17 #[.agg #[.int .i64 ux, .int .i64 uy, .int .i64 uz, .int .i64 vx, .int .i64 vy, .int .i64 vz, .int .i64 sx, .int .i64 sy, .int .i64 sz, .int .i64 kr, .int .i64 kg, .int .i64 kb, .int .i64 ka]] w fun e w' => e = .returned (.bool (trB ux uy uz vx vy vz sx sy sz kr kg kb ka)) ∧ Below w.heap.size w w' := by
  have HA : Hid (∀ w', Calls Try.prog 53 #[.agg #[.int .i64 ux, .int .i64 uy, .int .i64 uz]] w' fun e w'' => e = .returned (.bool (cnB ux uy uz)) ∧ Below w'.heap.size w' w'') := fun w' => mcorner _ _ _ w'
  have HB : Hid (∀ w', Calls Try.prog 53 #[.agg #[.int .i64 vx, .int .i64 vy, .int .i64 vz]] w' fun e w'' => e = .returned (.bool (cnB vx vy vz)) ∧ Below w'.heap.size w' w'') := fun w' => mcorner _ _ _ w'
  have HC : Hid (∀ w', Calls Try.prog 53 #[.agg #[.int .i64 sx, .int .i64 sy, .int .i64 sz]] w' fun e w'' => e = .returned (.bool (cnB sx sy sz)) ∧ Below w'.heap.size w' w'') := fun w' => mcorner _ _ _ w'
  have HK : Hid (∀ w', Calls Try.prog 54 #[.agg #[.int .i64 kr, .int .i64 kg, .int .i64 kb, .int .i64 ka]] w' fun e w'' => e = .returned (.bool (gdC kr kg kb ka)) ∧ Below w'.heap.size w' w'') := fun w' => good11 _ _ _ _ w'
  have HW : Hid (∀ w', Below (w.alloc (.cells #[.int .i64 ux, .int .i64 uy, .int .i64 uz, .int .i64 vx, .int .i64 vy, .int .i64 vz, .int .i64 sx, .int .i64 sy, .int .i64 sz, .int .i64 kr, .int .i64 kg, .int .i64 kb, .int .i64 ka] 28)).heap.size (w.alloc (.cells #[.int .i64 ux, .int .i64 uy, .int .i64 uz, .int .i64 vx, .int .i64 vy, .int .i64 vz, .int .i64 sx, .int .i64 sy, .int .i64 sz, .int .i64 kr, .int .i64 kg, .int .i64 kb, .int .i64 ka] 28)) w' → C13 w' w.heap.size (.int .i64 ux) (.int .i64 uy) (.int .i64 uz) (.int .i64 vx) (.int .i64 vy) (.int .i64 vz) (.int .i64 sx) (.int .i64 sy) (.int .i64 sz) (.int .i64 kr) (.int .i64 kg) (.int .i64 kb) (.int .i64 ka) ∧ Below w.heap.size w w') := fun w' b => ⟨(C13.new w 28 (.int .i64 ux) (.int .i64 uy) (.int .i64 uz) (.int .i64 vx) (.int .i64 vy) (.int .i64 vz) (.int .i64 sx) (.int .i64 sy) (.int .i64 sz) (.int .i64 kr) (.int .i64 kg) (.int .i64 kb) (.int .i64 ka)).next b, alloc_b.trans (b.mono (by simp))⟩
  have hc : trB ux uy uz vx vy vz sx sy sz kr kg kb ka = (cnB ux uy uz && (cnB vx vy vz && (cnB sx sy sz && gdC kr kg kb ka))) := rfl
  rw [hc]
  clear hc
  generalize cnB ux uy uz = c1 at HA
  generalize cnB vx vy vz = c2 at HB
  generalize cnB sx sy sz = c3 at HC
  generalize gdC kr kg kb ka = c4 at HK
  cases c1
  case' true => cases c2
  case' true.true => cases c3
  case' true.true.true => cases c4
  all_goals
    simp only [Bool.and_true, Bool.and_false, Bool.false_and]
    go_enter Try.func17, Try.ntmps17
    go_wp2_with (first
    | (go_at_call 53; (with_reducible show Calls Try.prog 53 #[.agg #[.int .i64 ux, .int .i64 uy, .int .i64 uz]] _ _); refine (HA.out _).mono ?_; rintro e w2 ⟨rfl, Bw2⟩; obtain ⟨P2, D2⟩ := HW.out _ Bw2; clear HW; have p0 := P2.c0; have p1 := P2.c1; have p2 := P2.c2; have p3 := P2.c3; have p4 := P2.c4; have p5 := P2.c5; have p6 := P2.c6; have p7 := P2.c7; have p8 := P2.c8; have p9 := P2.c9; have p10 := P2.c10; have p11 := P2.c11; have p12 := P2.c12; have pf := P2.f)
    | (go_at_call 53; (with_reducible show Calls Try.prog 53 #[.agg #[.int .i64 vx, .int .i64 vy, .int .i64 vz]] _ _); refine (HB.out _).mono ?_; rintro e w3 ⟨rfl, Bw3⟩; have P3 := P2.next Bw3; have D3 := D2.trans (Bw3.mono D2.size); clear p0; clear p1; clear p2; clear p3; clear p4; clear p5; clear p6; clear p7; clear p8; clear p9; clear p10; clear p11; clear p12; clear pf; clear P2 D2 Bw3; have p0 := P3.c0; have p1 := P3.c1; have p2 := P3.c2; have p3 := P3.c3; have p4 := P3.c4; have p5 := P3.c5; have p6 := P3.c6; have p7 := P3.c7; have p8 := P3.c8; have p9 := P3.c9; have p10 := P3.c10; have p11 := P3.c11; have p12 := P3.c12; have pf := P3.f)
    | (go_at_call 53; (with_reducible show Calls Try.prog 53 #[.agg #[.int .i64 sx, .int .i64 sy, .int .i64 sz]] _ _); refine (HC.out _).mono ?_; rintro e w4 ⟨rfl, Bw4⟩; have P4 := P3.next Bw4; have D4 := D3.trans (Bw4.mono D3.size); clear p0; clear p1; clear p2; clear p3; clear p4; clear p5; clear p6; clear p7; clear p8; clear p9; clear p10; clear p11; clear p12; clear pf; clear P3 D3 Bw4; have p0 := P4.c0; have p1 := P4.c1; have p2 := P4.c2; have p3 := P4.c3; have p4 := P4.c4; have p5 := P4.c5; have p6 := P4.c6; have p7 := P4.c7; have p8 := P4.c8; have p9 := P4.c9; have p10 := P4.c10; have p11 := P4.c11; have p12 := P4.c12; have pf := P4.f)
    | (go_at_call 54; (with_reducible show Calls Try.prog 54 #[.agg #[.int .i64 kr, .int .i64 kg, .int .i64 kb, .int .i64 ka]] _ _); refine (HK.out _).mono ?_; rintro e w5 ⟨rfl, Bw5⟩; have P5 := P4.next Bw5; have D5 := D4.trans (Bw5.mono D4.size); clear p0; clear p1; clear p2; clear p3; clear p4; clear p5; clear p6; clear p7; clear p8; clear p9; clear p10; clear p11; clear p12; clear pf; clear P4 D4 Bw5; have p0 := P5.c0; have p1 := P5.c1; have p2 := P5.c2; have p3 := P5.c3; have p4 := P5.c4; have p5 := P5.c5; have p6 := P5.c6; have p7 := P5.c7; have p8 := P5.c8; have p9 := P5.c9; have p10 := P5.c10; have p11 := P5.c11; have p12 := P5.c12; have pf := P5.f))
    go_ret
    first | exact ⟨rfl, D5⟩ | exact ⟨rfl, D4⟩ | exact ⟨rfl, D3⟩ | exact ⟨rfl, D2⟩
set_option maxHeartbeats 8000000 in
theorem pgoodtri (ux uy uz vx vy vz sx sy sz kr kg kb ka : Int) (w : World) : Calls Try.prog 22 #[.agg #[.int .i64 ux, .int .i64 uy, .int .i64 uz, .int .i64 vx, .int .i64 vy, .int .i64 vz, .int .i64 sx, .int .i64 sy, .int .i64 sz, .int .i64 kr, .int .i64 kg, .int .i64 kb, .int .i64 ka]] w fun e w' => e = .returned (.bool (trB ux uy uz vx vy vz sx sy sz kr kg kb ka)) ∧ Below w.heap.size w w' := by
  have HA : Hid (∀ w', Calls Try.prog 58 #[.agg #[.int .i64 ux, .int .i64 uy, .int .i64 uz]] w' fun e w'' => e = .returned (.bool (cnB ux uy uz)) ∧ Below w'.heap.size w' w'') := fun w' => pcorner _ _ _ w'
  have HB : Hid (∀ w', Calls Try.prog 58 #[.agg #[.int .i64 vx, .int .i64 vy, .int .i64 vz]] w' fun e w'' => e = .returned (.bool (cnB vx vy vz)) ∧ Below w'.heap.size w' w'') := fun w' => pcorner _ _ _ w'
  have HC : Hid (∀ w', Calls Try.prog 58 #[.agg #[.int .i64 sx, .int .i64 sy, .int .i64 sz]] w' fun e w'' => e = .returned (.bool (cnB sx sy sz)) ∧ Below w'.heap.size w' w'') := fun w' => pcorner _ _ _ w'
  have HK : Hid (∀ w', Calls Try.prog 59 #[.agg #[.int .i64 kr, .int .i64 kg, .int .i64 kb, .int .i64 ka]] w' fun e w'' => e = .returned (.bool (gdC kr kg kb ka)) ∧ Below w'.heap.size w' w'') := fun w' => good13 _ _ _ _ w'
  have HW : Hid (∀ w', Below (w.alloc (.cells #[.int .i64 ux, .int .i64 uy, .int .i64 uz, .int .i64 vx, .int .i64 vy, .int .i64 vz, .int .i64 sx, .int .i64 sy, .int .i64 sz, .int .i64 kr, .int .i64 kg, .int .i64 kb, .int .i64 ka] 28)).heap.size (w.alloc (.cells #[.int .i64 ux, .int .i64 uy, .int .i64 uz, .int .i64 vx, .int .i64 vy, .int .i64 vz, .int .i64 sx, .int .i64 sy, .int .i64 sz, .int .i64 kr, .int .i64 kg, .int .i64 kb, .int .i64 ka] 28)) w' → C13 w' w.heap.size (.int .i64 ux) (.int .i64 uy) (.int .i64 uz) (.int .i64 vx) (.int .i64 vy) (.int .i64 vz) (.int .i64 sx) (.int .i64 sy) (.int .i64 sz) (.int .i64 kr) (.int .i64 kg) (.int .i64 kb) (.int .i64 ka) ∧ Below w.heap.size w w') := fun w' b => ⟨(C13.new w 28 (.int .i64 ux) (.int .i64 uy) (.int .i64 uz) (.int .i64 vx) (.int .i64 vy) (.int .i64 vz) (.int .i64 sx) (.int .i64 sy) (.int .i64 sz) (.int .i64 kr) (.int .i64 kg) (.int .i64 kb) (.int .i64 ka)).next b, alloc_b.trans (b.mono (by simp))⟩
  have hc : trB ux uy uz vx vy vz sx sy sz kr kg kb ka = (cnB ux uy uz && (cnB vx vy vz && (cnB sx sy sz && gdC kr kg kb ka))) := rfl
  rw [hc]
  clear hc
  generalize cnB ux uy uz = c1 at HA
  generalize cnB vx vy vz = c2 at HB
  generalize cnB sx sy sz = c3 at HC
  generalize gdC kr kg kb ka = c4 at HK
  cases c1
  case' true => cases c2
  case' true.true => cases c3
  case' true.true.true => cases c4
  all_goals
    simp only [Bool.and_true, Bool.and_false, Bool.false_and]
    go_enter Try.func22, Try.ntmps22
    go_wp2_with (first
    | (go_at_call 58; (with_reducible show Calls Try.prog 58 #[.agg #[.int .i64 ux, .int .i64 uy, .int .i64 uz]] _ _); refine (HA.out _).mono ?_; rintro e w2 ⟨rfl, Bw2⟩; obtain ⟨P2, D2⟩ := HW.out _ Bw2; clear HW; have p0 := P2.c0; have p1 := P2.c1; have p2 := P2.c2; have p3 := P2.c3; have p4 := P2.c4; have p5 := P2.c5; have p6 := P2.c6; have p7 := P2.c7; have p8 := P2.c8; have p9 := P2.c9; have p10 := P2.c10; have p11 := P2.c11; have p12 := P2.c12; have pf := P2.f)
    | (go_at_call 58; (with_reducible show Calls Try.prog 58 #[.agg #[.int .i64 vx, .int .i64 vy, .int .i64 vz]] _ _); refine (HB.out _).mono ?_; rintro e w3 ⟨rfl, Bw3⟩; have P3 := P2.next Bw3; have D3 := D2.trans (Bw3.mono D2.size); clear p0; clear p1; clear p2; clear p3; clear p4; clear p5; clear p6; clear p7; clear p8; clear p9; clear p10; clear p11; clear p12; clear pf; clear P2 D2 Bw3; have p0 := P3.c0; have p1 := P3.c1; have p2 := P3.c2; have p3 := P3.c3; have p4 := P3.c4; have p5 := P3.c5; have p6 := P3.c6; have p7 := P3.c7; have p8 := P3.c8; have p9 := P3.c9; have p10 := P3.c10; have p11 := P3.c11; have p12 := P3.c12; have pf := P3.f)
    | (go_at_call 58; (with_reducible show Calls Try.prog 58 #[.agg #[.int .i64 sx, .int .i64 sy, .int .i64 sz]] _ _); refine (HC.out _).mono ?_; rintro e w4 ⟨rfl, Bw4⟩; have P4 := P3.next Bw4; have D4 := D3.trans (Bw4.mono D3.size); clear p0; clear p1; clear p2; clear p3; clear p4; clear p5; clear p6; clear p7; clear p8; clear p9; clear p10; clear p11; clear p12; clear pf; clear P3 D3 Bw4; have p0 := P4.c0; have p1 := P4.c1; have p2 := P4.c2; have p3 := P4.c3; have p4 := P4.c4; have p5 := P4.c5; have p6 := P4.c6; have p7 := P4.c7; have p8 := P4.c8; have p9 := P4.c9; have p10 := P4.c10; have p11 := P4.c11; have p12 := P4.c12; have pf := P4.f)
    | (go_at_call 59; (with_reducible show Calls Try.prog 59 #[.agg #[.int .i64 kr, .int .i64 kg, .int .i64 kb, .int .i64 ka]] _ _); refine (HK.out _).mono ?_; rintro e w5 ⟨rfl, Bw5⟩; have P5 := P4.next Bw5; have D5 := D4.trans (Bw5.mono D4.size); clear p0; clear p1; clear p2; clear p3; clear p4; clear p5; clear p6; clear p7; clear p8; clear p9; clear p10; clear p11; clear p12; clear pf; clear P4 D4 Bw5; have p0 := P5.c0; have p1 := P5.c1; have p2 := P5.c2; have p3 := P5.c3; have p4 := P5.c4; have p5 := P5.c5; have p6 := P5.c6; have p7 := P5.c7; have p8 := P5.c8; have p9 := P5.c9; have p10 := P5.c10; have p11 := P5.c11; have p12 := P5.c12; have pf := P5.f))
    go_ret
    first | exact ⟨rfl, D5⟩ | exact ⟨rfl, D4⟩ | exact ⟨rfl, D3⟩ | exact ⟨rfl, D2⟩
def arV (ux uy uz vx vy vz sx sy sz kr kg kb ka : Int) : Int := if trB ux uy uz vx vy vz sx sy sz kr kg kb ka then arI ux uy vx vy sx sy else 0
set_option maxHeartbeats 8000000 in
theorem mareaof (ux uy uz vx vy vz sx sy sz kr kg kb ka : Int) (w : World) : Calls Try.prog 18 #[.agg #[.int .i64 ux, .int .i64 uy, .int .i64 uz, .int .i64 vx, .int .i64 vy, .int .i64 vz, .int .i64 sx, .int .i64 sy, .int .i64 sz, .int .i64 kr, .int .i64 kg, .int .i64 kb, .int .i64 ka]] w fun e w' => e = .returned (.int .i64 (arV ux uy uz vx vy vz sx sy sz kr kg kb ka)) ∧ Below w.heap.size w w' := by
  have HT : Hid (∀ w', Calls Try.prog 17 #[.agg #[.int .i64 ux, .int .i64 uy, .int .i64 uz, .int .i64 vx, .int .i64 vy, .int .i64 vz, .int .i64 sx, .int .i64 sy, .int .i64 sz, .int .i64 kr, .int .i64 kg, .int .i64 kb, .int .i64 ka]] w' fun e w'' => e = .returned (.bool (trB ux uy uz vx vy vz sx sy sz kr kg kb ka)) ∧ Below w'.heap.size w' w'') := fun w' => mgoodtri ux uy uz vx vy vz sx sy sz kr kg kb ka w'
  have HN : Hid (trB ux uy uz vx vy vz sx sy sz kr kg kb ka = true → ∀ w', Calls Try.prog 55 #[.agg #[.int .i64 ux, .int .i64 uy, .int .i64 uz, .int .i64 vx, .int .i64 vy, .int .i64 vz, .int .i64 sx, .int .i64 sy, .int .i64 sz, .int .i64 kr, .int .i64 kg, .int .i64 kb, .int .i64 ka]] w' fun e w'' => e = .returned (.int .i64 (arI ux uy vx vy sx sy)) ∧ Below w'.heap.size w' w'') := fun h w' => marea ux uy uz vx vy vz sx sy sz kr kg kb ka w' h
  have HW : Hid (∀ w', Below (w.alloc (.cells #[.int .i64 ux, .int .i64 uy, .int .i64 uz, .int .i64 vx, .int .i64 vy, .int .i64 vz, .int .i64 sx, .int .i64 sy, .int .i64 sz, .int .i64 kr, .int .i64 kg, .int .i64 kb, .int .i64 ka] 28)).heap.size (w.alloc (.cells #[.int .i64 ux, .int .i64 uy, .int .i64 uz, .int .i64 vx, .int .i64 vy, .int .i64 vz, .int .i64 sx, .int .i64 sy, .int .i64 sz, .int .i64 kr, .int .i64 kg, .int .i64 kb, .int .i64 ka] 28)) w' → C13 w' w.heap.size (.int .i64 ux) (.int .i64 uy) (.int .i64 uz) (.int .i64 vx) (.int .i64 vy) (.int .i64 vz) (.int .i64 sx) (.int .i64 sy) (.int .i64 sz) (.int .i64 kr) (.int .i64 kg) (.int .i64 kb) (.int .i64 ka) ∧ Below w.heap.size w w') := fun w' b => ⟨(C13.new w 28 (.int .i64 ux) (.int .i64 uy) (.int .i64 uz) (.int .i64 vx) (.int .i64 vy) (.int .i64 vz) (.int .i64 sx) (.int .i64 sy) (.int .i64 sz) (.int .i64 kr) (.int .i64 kg) (.int .i64 kb) (.int .i64 ka)).next b, alloc_b.trans (b.mono (by simp))⟩
  unfold arV
  generalize trB ux uy uz vx vy vz sx sy sz kr kg kb ka = tb at HT HN
  cases tb
  case' true => have HM := Hid.mk (HN.out rfl)
  all_goals
    clear HN
    simp only [if_true, if_false, Bool.false_eq_true]
    go_enter Try.func18, Try.ntmps18
    go_wp2_with (first
    | (go_at_call 17; (with_reducible show Calls Try.prog 17 #[.agg #[.int .i64 ux, .int .i64 uy, .int .i64 uz, .int .i64 vx, .int .i64 vy, .int .i64 vz, .int .i64 sx, .int .i64 sy, .int .i64 sz, .int .i64 kr, .int .i64 kg, .int .i64 kb, .int .i64 ka]] _ _); refine (HT.out _).mono ?_; rintro e w2 ⟨rfl, Bw2⟩; obtain ⟨P2, D2⟩ := HW.out _ Bw2; clear HW; have p0 := P2.c0; have p1 := P2.c1; have p2 := P2.c2; have p3 := P2.c3; have p4 := P2.c4; have p5 := P2.c5; have p6 := P2.c6; have p7 := P2.c7; have p8 := P2.c8; have p9 := P2.c9; have p10 := P2.c10; have p11 := P2.c11; have p12 := P2.c12; have pf := P2.f)
    | (go_at_call 55; (with_reducible show Calls Try.prog 55 #[.agg #[.int .i64 ux, .int .i64 uy, .int .i64 uz, .int .i64 vx, .int .i64 vy, .int .i64 vz, .int .i64 sx, .int .i64 sy, .int .i64 sz, .int .i64 kr, .int .i64 kg, .int .i64 kb, .int .i64 ka]] _ _); refine (HM.out _).mono ?_; rintro e w3 ⟨rfl, Bw3⟩; have D3 := D2.trans (Bw3.mono D2.size)))
    go_ret
    first | exact ⟨rfl, D3⟩ | exact ⟨rfl, D2⟩
set_option maxHeartbeats 8000000 in
theorem pareaof (ux uy uz vx vy vz sx sy sz kr kg kb ka : Int) (w : World) : Calls Try.prog 23 #[.agg #[.int .i64 ux, .int .i64 uy, .int .i64 uz, .int .i64 vx, .int .i64 vy, .int .i64 vz, .int .i64 sx, .int .i64 sy, .int .i64 sz, .int .i64 kr, .int .i64 kg, .int .i64 kb, .int .i64 ka]] w fun e w' => e = .returned (.int .i64 (arV ux uy uz vx vy vz sx sy sz kr kg kb ka)) ∧ Below w.heap.size w w' := by
  have HT : Hid (∀ w', Calls Try.prog 22 #[.agg #[.int .i64 ux, .int .i64 uy, .int .i64 uz, .int .i64 vx, .int .i64 vy, .int .i64 vz, .int .i64 sx, .int .i64 sy, .int .i64 sz, .int .i64 kr, .int .i64 kg, .int .i64 kb, .int .i64 ka]] w' fun e w'' => e = .returned (.bool (trB ux uy uz vx vy vz sx sy sz kr kg kb ka)) ∧ Below w'.heap.size w' w'') := fun w' => pgoodtri ux uy uz vx vy vz sx sy sz kr kg kb ka w'
  have HN : Hid (trB ux uy uz vx vy vz sx sy sz kr kg kb ka = true → ∀ w', Calls Try.prog 60 #[.agg #[.int .i64 ux, .int .i64 uy, .int .i64 uz, .int .i64 vx, .int .i64 vy, .int .i64 vz], .int .i64 sx, .int .i64 sy] w' fun e w'' => e = .returned (.int .i64 (arI ux uy vx vy sx sy)) ∧ Below w'.heap.size w' w'') := fun h w' => pnum _ _ uz _ _ vz _ _ w' (tr_pt h).1 (tr_pt h).2.1 (tr_pt h).2.2.1
  have HW : Hid (∀ w', Below (w.alloc (.cells #[.int .i64 ux, .int .i64 uy, .int .i64 uz, .int .i64 vx, .int .i64 vy, .int .i64 vz, .int .i64 sx, .int .i64 sy, .int .i64 sz, .int .i64 kr, .int .i64 kg, .int .i64 kb, .int .i64 ka] 28)).heap.size (w.alloc (.cells #[.int .i64 ux, .int .i64 uy, .int .i64 uz, .int .i64 vx, .int .i64 vy, .int .i64 vz, .int .i64 sx, .int .i64 sy, .int .i64 sz, .int .i64 kr, .int .i64 kg, .int .i64 kb, .int .i64 ka] 28)) w' → C13 w' w.heap.size (.int .i64 ux) (.int .i64 uy) (.int .i64 uz) (.int .i64 vx) (.int .i64 vy) (.int .i64 vz) (.int .i64 sx) (.int .i64 sy) (.int .i64 sz) (.int .i64 kr) (.int .i64 kg) (.int .i64 kb) (.int .i64 ka) ∧ Below w.heap.size w w') := fun w' b => ⟨(C13.new w 28 (.int .i64 ux) (.int .i64 uy) (.int .i64 uz) (.int .i64 vx) (.int .i64 vy) (.int .i64 vz) (.int .i64 sx) (.int .i64 sy) (.int .i64 sz) (.int .i64 kr) (.int .i64 kg) (.int .i64 kb) (.int .i64 ka)).next b, alloc_b.trans (b.mono (by simp))⟩
  unfold arV
  generalize trB ux uy uz vx vy vz sx sy sz kr kg kb ka = tb at HT HN
  cases tb
  case' true => have HM := Hid.mk (HN.out rfl)
  all_goals
    clear HN
    simp only [if_true, if_false, Bool.false_eq_true]
    go_enter Try.func23, Try.ntmps23
    go_wp2_with (first
    | (go_at_call 22; (with_reducible show Calls Try.prog 22 #[.agg #[.int .i64 ux, .int .i64 uy, .int .i64 uz, .int .i64 vx, .int .i64 vy, .int .i64 vz, .int .i64 sx, .int .i64 sy, .int .i64 sz, .int .i64 kr, .int .i64 kg, .int .i64 kb, .int .i64 ka]] _ _); refine (HT.out _).mono ?_; rintro e w2 ⟨rfl, Bw2⟩; obtain ⟨P2, D2⟩ := HW.out _ Bw2; clear HW; have p0 := P2.c0; have p1 := P2.c1; have p2 := P2.c2; have p3 := P2.c3; have p4 := P2.c4; have p5 := P2.c5; have p6 := P2.c6; have p7 := P2.c7; have p8 := P2.c8; have p9 := P2.c9; have p10 := P2.c10; have p11 := P2.c11; have p12 := P2.c12; have pf := P2.f)
    | (go_at_call 60; (with_reducible show Calls Try.prog 60 #[.agg #[.int .i64 ux, .int .i64 uy, .int .i64 uz, .int .i64 vx, .int .i64 vy, .int .i64 vz], .int .i64 sx, .int .i64 sy] _ _); refine (HM.out _).mono ?_; rintro e w3 ⟨rfl, Bw3⟩; have D3 := D2.trans (Bw3.mono D2.size)))
    go_ret
    first | exact ⟨rfl, D3⟩ | exact ⟨rfl, D2⟩
end Go.Proofs.Ytglhlpbaaoekgaa
