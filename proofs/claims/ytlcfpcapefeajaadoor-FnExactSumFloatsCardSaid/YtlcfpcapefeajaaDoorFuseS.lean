/- The model's FuseWords by the kinds of the three words. -/
import Derived.Test.YtlcfpcapefeajaaDoorFuseI
namespace Go.Proofs.YtlcfpcapefeajaaDoor.fnExactFuseWords
open Go.ChangeShapes Go.WideShapes Go.ChangeAt Go.RowKit
set_option linter.unusedVariables false
/-- The sign of a nought that is a sum. -/
def nilB (a b : Bool) (mode : Int) : Bool := if a == b then a else decide (mode = 4)
theorem nil83B (a b : Bool) (mode : Int) (w : World) : Calls Tryd.prog 69 #[.bool a, .bool b, .int .i64 mode] w fun e w' => e = .returned (.int .u32 (sgn_w (nilB a b mode) 0)) ∧ w' = w := nil83 a b mode w
/-- What the model's questions answer of a word, by its kind. -/
structure Tests (a x : Int) (S : Bool) : Prop where
  neg : ∀ v : World, Calls Tryd.prog 70 #[.int .u32 a] v fun e w' => e = .returned (.bool S) ∧ w' = v
  nan : ∀ v : World, Calls Tryd.prog 66 #[.int .u32 a] v fun e w' => e = .returned (.bool (decide (x = 3))) ∧ w' = v
  inf : ∀ v : World, Calls Tryd.prog 67 #[.int .u32 a] v fun e w' => e = .returned (.bool (decide (x = 2))) ∧ w' = v
  nil : ∀ v : World, Calls Tryd.prog 68 #[.int .u32 a] v fun e w' => e = .returned (.bool (decide (x = 0))) ∧ w' = v
theorem tests (a x : Int) (S : Bool) (a0 : 0 ≤ a) (a1 : a < 4294967296) (hx : kindI (a % 2147483648) = x) (hS : decide (2147483648 ≤ a) = S) : Tests a x S := by
  obtain ⟨k3, k2, k0⟩ := kind_tests (a % 2147483648) (by omega)
  refine ⟨fun v => ?_, fun v => ?_, fun v => ?_, fun v => ?_⟩
  · have h := sNeg_any a a0 a1 v; rw [hS] at h; exact h
  · have h := sNaN_any a a0 a1 v; rw [k3, hx] at h; exact h
  · have h := sInf_any a a0 a1 v; rw [k2, hx] at h; exact h
  · have h := sNil_any a a0 a1 v; rw [k0, hx] at h; exact h
section
variable (a b c mode x y z : Int) (SA SB SC : Bool) (xb : 0 ≤ x ∧ x ≤ 3) (yb : 0 ≤ y ∧ y ≤ 3) (zb : 0 ≤ z ∧ z ≤ 3) (TA : Tests a x SA) (TB : Tests b y SB) (TC : Tests c z SC)
end
end Go.Proofs.YtlcfpcapefeajaaDoor.fnExactFuseWords
