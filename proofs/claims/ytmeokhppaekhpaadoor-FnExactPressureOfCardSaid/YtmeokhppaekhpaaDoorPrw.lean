/- The model's PressureOf, of good code. -/
import Derived.Test.YtmeokhppaekhpaaDoorLwo
namespace Go.Proofs.YtmeokhppaekhpaaDoor
open Go.ChangeShapes Go.WideShapes Go.ChangeAt Go.RowKit
set_option linter.unusedVariables false
/-- The greatest of the first k. -/
def mxF (f : Nat → Nat) : Nat → Nat
  | 0 => 0
  | k + 1 => if mxF f k < f k then f k else mxF f k
set_option maxRecDepth 100000 in
set_option maxHeartbeats 4000000 in
theorem press32 (n a cap R : Nat) (c : Cd) (K : LvOk c R) (w : World) (hn : c.n = n) (RI : RowI w a n c.O c.D c.A c.B c.C c.X) (h34 : Calls Tryd.prog 19 #[.slice (some ⟨a, 0, none⟩) n cap] w fun e w' => e = .returned (.bool true) ∧ Below w.heap.size w w') (h62 : ∀ v, Below w.heap.size w v → Calls Tryd.prog 32 #[.slice (some ⟨a, 0, none⟩) n cap] v fun e w' => e = .returned (.int .i64 (R : Int)) ∧ Below v.heap.size v w') : Calls Tryd.prog 17 #[.slice (some ⟨a, 0, none⟩) n cap] w fun e w' => e = .returned (.int .i64 (mxF (fun k => (lsF (lbB c k) R).length) n : Nat)) ∧ Below w.heap.size w w' := by
  have n1 : n ≤ 600 := by rw [← hn]; exact K.n1
  have n0 : 1 ≤ n := by rw [← hn]; exact K.n0
  have h10 := live10 n a cap R c K w hn RI h34 h62
  have HF : Hid (∀ k, (fun k => (lsF (lbB c k) R).length) k = ((fun k => lsF (lbB c k) R) k).length) := fun k => rfl
  generalize (fun k => (lsF (lbB c k) R).length) = m at HF ⊢
  generalize (fun k => lsF (lbB c k) R) = f at h10 HF
  clear RI K hn h34 h62
  go_enter Tryd.func17, Tryd.ntmps17
  go_wp2_with (go_at_call 7; refine h10.mono ?_; rintro e w1 ⟨u, rfl, RG, B1⟩; (obtain ⟨vs, V1, V2⟩ := RG); (obtain ⟨g, cp, rfl, hgB, hgl⟩ := World.ownsRow.form V1 (by omega)))
  have HV : Hid (∀ i, i < n → ∃ ad cc, w1.cell? ⟨g, i, none⟩ = some (.slice ad (m i) cc)) := fun i hi => by
    obtain ⟨v, q1, q2, _⟩ := V2 i hi
    obtain ⟨ad, cc, rfl⟩ := q2.is
    exact ⟨ad, cc, by rw [V1.cellAt i (by omega), q1, HF.out]⟩
  have HB1 : Hid (Below w.heap.size w w1) := B1
  clear V1 V2 hgB hgl h10 B1
  go_loop [5, 17] (fun mv i => ∃ k : Nat, k ≤ n ∧ i = .int .i64 k ∧ mv = .int .i64 (mxF m k : Nat)) (fun _ i => n - (intOf i).toNat)
  case atStart => exact ⟨0, Nat.zero_le _, rfl, rfl⟩
  case round =>
    obtain ⟨k, hk, rfl, rfl⟩ := hrel
    by_cases hkn : k < n
    · have i1 : (k : Int) < (n : Int) := by omega
      have i0 : (0 : Int) ≤ (k : Int) := by omega
      obtain ⟨ad, cc, ck⟩ := HV.out k hkn
      have HM : Hid (mxF m (k + 1) = if mxF m k < m k then m k else mxF m k) := rfl
      generalize mxF m k = x at HM ⊢
      generalize m k = y at HM ck
      by_cases hxy : x < y
      · have HM2 : Hid (mxF m (k + 1) = y) := by show _ = _; rw [HM.out, if_pos hxy]
        have j1 : (x : Int) < (y : Int) := by omega
        go_wp2
        go_round
        case rel => exact ⟨k + 1, by omega, by go_num, by rw [HM2.out]⟩
        case measure => simp [intOf]; omega
      · have HM2 : Hid (mxF m (k + 1) = x) := by show _ = _; rw [HM.out, if_neg hxy]
        have j1 : ¬ (x : Int) < (y : Int) := by omega
        go_wp2
        go_round
        case rel => exact ⟨k + 1, by omega, by go_num, by rw [HM2.out]⟩
        case measure => simp [intOf]; omega
    · obtain rfl : n = k := by omega
      have i1 : ¬ (n : Int) < (n : Int) := by omega
      go_wp2
      go_ret
      exact ⟨rfl, HB1.out⟩
end Go.Proofs.YtmeokhppaekhpaaDoor
