/- Contracts of the program's liftTo and quotientOf. -/
import Derived.Test.YtlcfpcapefeajaaDoorProd
import Derived.Deep.RegionHeld3
namespace Go.Proofs.YtlcfpcapefeajaaDoor
open Go.ChangeShapes Go.WideShapes Go.ChangeAt Go.RowKit
set_option linter.unusedVariables false
set_option maxHeartbeats 2000000 in
theorem lift86 (neg m : Bool) (z p s Z L len : Int) (w : World) (hL : (Lib.bitLen z.toNat : Int) = L) (l0 : 0 ≤ L) (l1 : L ≤ 64) (z0 : 0 ≤ z) (z1 : z < 18446744073709551616) (hs : len - L = s) (s0 : 0 ≤ s) (s1 : s ≤ 62) (hl : len ≤ 64) (hZ : z * 2 ^ s.toNat = Z) (Z0 : 0 ≤ Z) (Z1 : Z < 18446744073709551616) (p0 : -10000 ≤ p) (p1 : p ≤ 10000) :
    Calls Tryd.prog 107 #[.agg #[.bool neg, .int .u64 z, .int .i64 p, .bool m], .int .i64 len] w fun e w' => e = .returned (.agg #[.bool neg, .int .u64 Z, .int .i64 (p - s), .bool m]) ∧ Below w.heap.size w w' := by
  have hw : IntKind.u64.wrap (z * 2 ^ s.toNat) = Z := by rw [hZ, IntKind.wrap_u64]; exact Int.emod_eq_of_lt Z0 Z1
  have hlen := len64_any z z0 z1
  rw [hL] at hlen
  have HL : Hid (∀ v : World, Calls Tryd.prog 80 #[.int .u64 z] v fun e w' => e = .returned (.int .i64 L) ∧ w' = v) := hlen
  clear hL hlen hZ
  go_enter Tryd.func107, Tryd.ntmps107
  go_wp2_with (go_at_call 80; refine ((Hid.out HL) _).mono ?_; rintro e w' ⟨rfl, hw'⟩; subst w')
  exact bodyPost_ret (v := .agg #[.bool neg, .int .u64 Z, .int .i64 (p - s), .bool m]) (by simp [results, Tryd.results107, go_sem]) rfl ⟨rfl, by repeat (first | (with_reducible refine Below.setCell ?_ (by first | omega | (simp; try omega)) _) | (with_reducible refine Below.alloc ?_ (by first | omega | (simp; try omega)) _) | (with_reducible exact Below.refl _ _))⟩
theorem quot_z (A B : Nat) (E : Int) (s : Nat) (hB : 0 < B) : sa (A * 2 ^ E.toNat) (E - s) / sb (B * 2 ^ (-E).toNat) (E - s) = A * 2 ^ s / B ∧ (sa (A * 2 ^ E.toNat) (E - s) % sb (B * 2 ^ (-E).toNat) (E - s) = 0 ↔ A * 2 ^ s % B = 0) := by
  unfold sa sb
  have e : E.toNat + (-(E - (s : Int))).toNat = s + ((-E).toNat + (E - (s : Int)).toNat) := by omega
  obtain ⟨c, hc⟩ : ∃ c, (-E).toNat + (E - (s : Int)).toNat = c := ⟨_, rfl⟩
  have e1 : A * 2 ^ E.toNat * 2 ^ (-(E - (s : Int))).toNat = A * 2 ^ s * 2 ^ c := by
    rw [Nat.mul_assoc, ← Nat.pow_add, e, hc, Nat.pow_add, Nat.mul_assoc]
  have e2 : B * 2 ^ (-E).toNat * 2 ^ (E - (s : Int)).toNat = B * 2 ^ c := by rw [Nat.mul_assoc, ← Nat.pow_add, hc]
  rw [e1, e2, Nat.mul_div_mul_right _ _ (p2 c), Nat.mul_mod_mul_right]
  refine ⟨rfl, ?_⟩
  rw [Nat.mul_eq_zero]
  have := p2 c
  omega
end Go.Proofs.YtlcfpcapefeajaaDoor
