/- The model's ReadsOf. -/
import Derived.Test.YtbnohbckoljhmaaDoorRdt
import Derived.Test.YtbnohbckoljhmaaDoorGd
import Derived.Test.YtbnohbckoljhmaaDoorEnc
namespace Go.Proofs.YtbnohbckoljhmaaDoor
open Go.ChangeShapes Go.WideShapes Go.ChangeAt Go.RowKit
set_option linter.unusedVariables false
/-- What ReadsOf answers. -/
def rdL (o d a b c x : Int) : List Int := if goodI o d a b c x 600 then srt (opsL o a b c x) else []
theorem good_call1 {o d a b c x n : Int} (hg : goodI o d a b c x n = true) (h4 : o = 4) : 1 ≤ ar (calW x) := by
  have hs : swOk o a b c x = true := by
    unfold goodI at hg
    simp only [Bool.and_eq_true] at hg
    exact hg.2
  rw [h4] at hs
  unfold swOk callOk at hs
  simp only [Bool.and_eq_true, decide_eq_true_eq, show ¬ (4 : Int) = 3 by decide, if_false, if_true] at hs
  exact hs.1.1.1
set_option maxRecDepth 100000 in
theorem reads15 (o d a b c x : Int) (w : World) (x0 : 0 ≤ x) (x1 : x < 4294967296) : Calls Tryd.prog 5 #[.agg #[.int .i64 o, .int .i64 d, .int .i64 a, .int .i64 b, .int .i64 c, .int .u32 x]] w fun e w' => ∃ v, e = .returned v ∧ Ri w.heap.size w' v (rdL o d a b c x) ∧ Below w.heap.size w w' := by
  have h31 := fun v => lg31 o d a b c x 600 v x0 x1 (by decide) (by decide)
  have BA : Hid (Below w.heap.size w (w.alloc (.cells #[.int .i64 o, .int .i64 d, .int .i64 a, .int .i64 b, .int .i64 c, .int .u32 x] 27))) := (Below.refl _ _).alloc (Nat.le_refl _) _
  have d0 : (w.alloc (.cells #[.int .i64 o, .int .i64 d, .int .i64 a, .int .i64 b, .int .i64 c, .int .u32 x] 27)).cell? ⟨w.heap.size, 0, none⟩ = some (.int .i64 o) := by simp
  have d1 : (w.alloc (.cells #[.int .i64 o, .int .i64 d, .int .i64 a, .int .i64 b, .int .i64 c, .int .u32 x] 27)).cell? ⟨w.heap.size, 1, none⟩ = some (.int .i64 d) := by simp
  have d2 : (w.alloc (.cells #[.int .i64 o, .int .i64 d, .int .i64 a, .int .i64 b, .int .i64 c, .int .u32 x] 27)).cell? ⟨w.heap.size, 2, none⟩ = some (.int .i64 a) := by simp
  have d3 : (w.alloc (.cells #[.int .i64 o, .int .i64 d, .int .i64 a, .int .i64 b, .int .i64 c, .int .u32 x] 27)).cell? ⟨w.heap.size, 3, none⟩ = some (.int .i64 b) := by simp
  have d4 : (w.alloc (.cells #[.int .i64 o, .int .i64 d, .int .i64 a, .int .i64 b, .int .i64 c, .int .u32 x] 27)).cell? ⟨w.heap.size, 4, none⟩ = some (.int .i64 c) := by simp
  have d5 : (w.alloc (.cells #[.int .i64 o, .int .i64 d, .int .i64 a, .int .i64 b, .int .i64 c, .int .u32 x] 27)).cell? ⟨w.heap.size, 5, none⟩ = some (.int .u32 x) := by simp
  cases hg : goodI o d a b c x 600
  · have HV : Hid (rdL o d a b c x = []) := by show _ = _; unfold rdL; rw [hg]; rfl
    rw [hg] at h31
    clear hg
    go_enter Tryd.func5, Tryd.ntmps5
    go_wp2_with (go_at_call 16; refine (h31 _).mono ?_; rintro e w1 ⟨rfl, B1⟩)
    go_ret
    have B : Below w.heap.size w w1 := BA.out.trans (B1.mono BA.out.size)
    exact ⟨_, rfl, by rw [HV.out]; exact ⟨World.ownsRow_nil _ _ _ _, B.size⟩, B⟩
  · have HV : Hid (rdL o d a b c x = srt (opsL o a b c x)) := by show _ = _; unfold rdL; rw [hg]; rfl
    have h39 : ∀ v, Calls Tryd.prog 17 #[.agg #[.int .i64 o, .int .i64 d, .int .i64 a, .int .i64 b, .int .i64 c, .int .u32 x]] v fun e w' => ∃ u, e = .returned u ∧ Ri v.heap.size w' u (srt (opsL o a b c x)) ∧ Below v.heap.size v w' := fun v => reads39 o d a b c x v x0 x1 (bds_of hg (by decide)).1 (good_call1 hg)
    rw [hg] at h31
    clear hg
    go_enter Tryd.func5, Tryd.ntmps5
    go_wp2_with (first | (go_at_call 16; refine (h31 _).mono ?_; rintro e w1 ⟨rfl, B1⟩; (have e0 := cell_next d0 B1); (have e1 := cell_next d1 B1); (have e2 := cell_next d2 B1); (have e3 := cell_next d3 B1); (have e4 := cell_next d4 B1); (have e5 := cell_next d5 B1); skip) | (go_at_call 17; refine (h39 _).mono ?_; rintro e w2 ⟨u, rfl, RI, B2⟩))
    go_ret
    have B : Below w.heap.size w w1 := BA.out.trans (B1.mono BA.out.size)
    exact ⟨_, rfl, by rw [HV.out]; exact ri_of RI.1 B.size RI.2 rfl rfl, B.trans (B2.mono B.size)⟩
end Go.Proofs.YtbnohbckoljhmaaDoor
