/- Contract of the model's order of limbs (l1CmpD): by length, then from the last limb down; conditions: both rows stand in memory. -/
import Derived.Test.YtoloenkcfpfgcaaDoorSmall2
namespace Go.Proofs.YtoloenkcfpfgcaaDoor
open Go.ChangeShapes Go.WideShapes Go.ChangeAt Go.RowKit

/-- A row of limbs: n of them from the head of block b on. -/
def Limbs (w : World) (b n : Nat) (d : Nat → Nat) : Prop := ∀ i, i < n → w.cell? ⟨b, i, none⟩ = some (.int .u32 (d i : Int))
/-- The first n limbs of two rows, held against each other from the last one down. -/
def cmpTop (d e : Nat → Nat) : Nat → Int
  | 0 => 0
  | n + 1 => if d n < e n then -1 else if e n < d n then 1 else cmpTop d e n

theorem drew2 (w : World) (a b : Nat) : (w.drewN a).drewN b = w.drewN (a + b) := by simp [World.drewN, Nat.add_assoc]
set_option maxHeartbeats 1000000 in
theorem cmpD_eq (n a b ca cb : Nat) (d e : Nat → Nat) (w : World) (hn : n ≤ 1000000) (ha : Limbs w a n d) (hb : Limbs w b n e) :
    Calls Tryd.prog 68 #[.slice (some ⟨a, 0, none⟩) n ca, .slice (some ⟨b, 0, none⟩) n cb] w fun r w' => r = .returned (.int .i64 (cmpTop d e n)) ∧ ∃ k, w' = w.drewN k := by
  go_enter Tryd.func68, Tryd.ntmps68
  go_wp2
  go_loopw [5] (fun i wx => ∃ k q : Nat, k ≤ n ∧ i = .int .i64 ((k : Int) - 1) ∧ Hid (cmpTop d e n = cmpTop d e k) ∧ wx = w.drewN q) (fun i _ => (intOf i + 1).toNat)
  case atStart => exact ⟨n, 0, Nat.le_refl _, rfl, rfl, rfl⟩
  case round =>
    obtain ⟨k, q, hk, rfl, HE, rfl⟩ := hrel
    rcases k with _ | k
    · go_wp2
      go_ret
      exact ⟨by rw [HE.out]; rfl, q, rfl⟩
    · have c1 : w.cell? ⟨a, k, none⟩ = some (.int .u32 (d k : Int)) := ha k (by omega)
      have c2 : w.cell? ⟨b, k, none⟩ = some (.int .u32 (e k : Int)) := hb k (by omega)
      have i0 : (0 : Int) ≤ (k : Int) := by omega
      have i1 : (k : Int) < (n : Int) := by omega
      have es : ((k + 1 : Nat) : Int) - 1 = (k : Int) := by omega
      rw [es]
      by_cases l1 : d k < e k
      · have hr : cmpTop d e n = -1 := by rw [HE.out]; simp [cmpTop, l1]
        have l1' : (d k : Int) < (e k : Int) := by omega
        go_wp2
        go_quiet (fail)
        go_wp2
        go_ret
        exact ⟨by rw [hr]; rfl, by simp only [drew2]; exact ⟨_, rfl⟩⟩
      have l1' : ¬ (d k : Int) < (e k : Int) := by omega
      by_cases l2 : e k < d k
      · have hr : cmpTop d e n = 1 := by rw [HE.out]; simp [cmpTop, l1, l2]
        have l2' : (e k : Int) < (d k : Int) := by omega
        go_wp2
        go_quiet (fail)
        go_wp2
        go_quiet (fail)
        go_wp2
        go_ret
        exact ⟨by rw [hr]; rfl, by simp only [drew2]; exact ⟨_, rfl⟩⟩
      · have l2' : ¬ (e k : Int) < (d k : Int) := by omega
        have HN : Hid (cmpTop d e n = cmpTop d e k) := by show cmpTop d e n = cmpTop d e k; rw [HE.out]; simp [cmpTop, l1, l2]
        go_wp2
        go_quiet (fail)
        go_wp2
        go_quiet (fail)
        go_wp2
        go_roundw
        case rel => exact ⟨k, _, by omega, rfl, HN, rfl⟩
        case measure => simp [intOf]
end Go.Proofs.YtoloenkcfpfgcaaDoor
