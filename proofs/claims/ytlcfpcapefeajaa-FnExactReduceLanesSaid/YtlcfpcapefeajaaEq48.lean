/- What '==' says of an array of lanes and the empty one. -/
import Derived.Test.YtlcfpcapefeajaaRed
import Derived.Laws.StructEq
import Derived.Laws.Cover2
namespace Go.Proofs.Ytlcfpcapefeajaa
open Go.ChangeShapes Go.WideShapes Go.ChangeAt Go.RowKit
set_option maxRecDepth 100000 in
set_option maxHeartbeats 4000000 in
theorem eq48 (b0 b1 b2 b3 b4 b5 b6 b7 b8 b9 b10 b11 b12 b13 b14 b15 : Bool) (w : World) : (Op.equalIn 10000 48 (.agg #[.bool b0, .bool b1, .bool b2, .bool b3, .bool b4, .bool b5, .bool b6, .bool b7, .bool b8, .bool b9, .bool b10, .bool b11, .bool b12, .bool b13, .bool b14, .bool b15]) (.agg #[.bool false, .bool false, .bool false, .bool false, .bool false, .bool false, .bool false, .bool false, .bool false, .bool false, .bool false, .bool false, .bool false, .bool false, .bool false, .bool false])).run Try.prog w = .ok (!(b0 || b1 || b2 || b3 || b4 || b5 || b6 || b7 || b8 || b9 || b10 || b11 || b12 || b13 || b14 || b15)) w := by
  have u4 := Try.underlying4
  have a4 := Try.isAgg4
  have z4 := Try.sizeOf4
  rw [show (10000 : Nat) = 9999 + 1 from rfl, Op.equalIn]
  simp only [Sem.run_bind, run_underlying Try.underlying48, Result.andThen_ok]
  simp only [Std.Legacy.Range.forIn_eq_forIn_range', Std.Legacy.Range.size, Nat.sub_zero, Nat.add_sub_cancel, Nat.div_one, List.range'_succ, List.range'_zero, List.forIn_cons, List.forIn_nil]
  go_simp
  cases b0
  case true => simp
  cases b1
  case true => simp
  cases b2
  case true => simp
  cases b3
  case true => simp
  cases b4
  case true => simp
  cases b5
  case true => simp
  cases b6
  case true => simp
  cases b7
  case true => simp
  cases b8
  case true => simp
  cases b9
  case true => simp
  cases b10
  case true => simp
  cases b11
  case true => simp
  cases b12
  case true => simp
  cases b13
  case true => simp
  cases b14
  case true => simp
  cases b15
  case true => simp
  rfl
theorem lanes_zero (m : Int) (h0 : 0 ≤ m) (h1 : m < 65536) : (!(onM m 0 || onM m 1 || onM m 2 || onM m 3 || onM m 4 || onM m 5 || onM m 6 || onM m 7 || onM m 8 || onM m 9 || onM m 10 || onM m 11 || onM m 12 || onM m 13 || onM m 14 || onM m 15)) = decide (m = 0) := by
  by_cases hm : m = 0
  · subst hm; simp [on_zero]
  · rw [decide_eq_false hm]
    cases hb : (!(onM m 0 || onM m 1 || onM m 2 || onM m 3 || onM m 4 || onM m 5 || onM m 6 || onM m 7 || onM m 8 || onM m 9 || onM m 10 || onM m 11 || onM m 12 || onM m 13 || onM m 14 || onM m 15))
    · rfl
    · refine absurd (zero_of_off m h0 h1 (fun i hi => ?_)) hm
      simp at hb
      rcases lt16 hi with rfl | rfl | rfl | rfl | rfl | rfl | rfl | rfl | rfl | rfl | rfl | rfl | rfl | rfl | rfl | rfl <;> simp [hb]
theorem eqLanes (m : Int) (h0 : 0 ≤ m) (h1 : m < 65536) (w : World) : (Op.equalIn 10000 48 (.agg #[.bool (onM m 0), .bool (onM m 1), .bool (onM m 2), .bool (onM m 3), .bool (onM m 4), .bool (onM m 5), .bool (onM m 6), .bool (onM m 7), .bool (onM m 8), .bool (onM m 9), .bool (onM m 10), .bool (onM m 11), .bool (onM m 12), .bool (onM m 13), .bool (onM m 14), .bool (onM m 15)]) (.agg #[.bool false, .bool false, .bool false, .bool false, .bool false, .bool false, .bool false, .bool false, .bool false, .bool false, .bool false, .bool false, .bool false, .bool false, .bool false, .bool false])).run Try.prog w = .ok (decide (m = 0)) w := by
  rw [eq48, lanes_zero m h0 h1]
end Go.Proofs.Ytlcfpcapefeajaa
