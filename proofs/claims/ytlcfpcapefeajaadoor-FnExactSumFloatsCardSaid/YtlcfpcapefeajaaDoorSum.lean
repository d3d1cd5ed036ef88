/- Contracts of the program's lowerTo, differenceOf and sumOf. -/
import Derived.Test.YtlcfpcapefeajaaDoorQuot
import Derived.Deep.QuietTactic
import Derived.BigQuiet
namespace Go.Proofs.YtlcfpcapefeajaaDoor
open Go.ChangeShapes Go.WideShapes Go.ChangeAt Go.RowKit
set_option linter.unusedVariables false
set_option maxHeartbeats 2000000 in
theorem lower99 (neg : Bool) (z p P s kept c : Int) (w : World) (hs : P - p = s) (p0 : -10000 ≤ p) (p1 : p ≤ 10000) (q0 : -10000 ≤ P) (q1 : P ≤ 10000)
    (hc : ∀ v : World, Calls Tryd.prog 81 #[.agg #[.bool neg, .int .u64 z, .int .i64 p, .bool false], .int .i64 s] v fun e w' => e = .returned (.tuple #[.int .u64 kept, .int .i64 c]) ∧ Below v.heap.size v w') :
    Calls Tryd.prog 108 #[.agg #[.bool neg, .int .u64 z, .int .i64 p, .bool false], .int .i64 P] w fun e w' => e = .returned (.agg #[.bool neg, .int .u64 kept, .int .i64 P, .bool (c != 0)]) ∧ Below w.heap.size w w' := by
  have HC : Hid (∀ v : World, Calls Tryd.prog 81 #[.agg #[.bool neg, .int .u64 z, .int .i64 p, .bool false], .int .i64 s] v fun e w' => e = .returned (.tuple #[.int .u64 kept, .int .i64 c]) ∧ Below v.heap.size v w') := hc
  clear hc
  go_enter Tryd.func108, Tryd.ntmps108
  go_wp2_with (go_at_call 81; refine ((Hid.out HC) _).mono ?_; rintro e w1 ⟨rfl, hb1⟩; have hz1 := hb1.size; (try simp at hz1); (have A1 := (hb1.block w.heap.size (by simp; omega)).trans ((Below.heap_alloc _ _ _ (by simp)).trans (heap_alloc_new _ _))); (have R1 := (hb1.block (w.heap.size + 1) (by simp)).trans (heap_alloc_at (by simp))); obtain ⟨⟨x0, x1, x2, x3⟩, _⟩ := blk4 A1; obtain ⟨⟨u0, u1, u2, u3⟩, y0, y1, y2, y3⟩ := blk4 R1)
  exact bodyPost_ret (v := .agg #[.bool neg, .int .u64 kept, .int .i64 P, .bool (c != 0)]) (by simp [results, Tryd.results108, go_sem, u0, u1, u2, u3]) rfl ⟨rfl, by repeat (first | (with_reducible refine Below.setCell ?_ (by first | omega | (simp; try omega)) _) | (with_reducible refine Below.alloc ?_ (by first | omega | (simp; try omega)) _) | (with_reducible exact Below.refl _ _) | (with_reducible refine Below.trans ?_ (hb1.mono (by first | omega | (simp; try omega)))))⟩
set_option maxHeartbeats 2000000 in
theorem diff_ge (nx ny : Bool) (X Y P Q : Int) (my : Bool) (w : World) (y0 : 0 ≤ Y) (h : Y ≤ X) (x1 : X < 18446744073709551616) (hm : my = true → Y < X) :
    Calls Tryd.prog 109 #[.agg #[.bool nx, .int .u64 X, .int .i64 P, .bool false], .agg #[.bool ny, .int .u64 Y, .int .i64 Q, .bool my]] w fun e w' => e = .returned (.agg #[.bool nx, .int .u64 (if my then X - Y - 1 else X - Y), .int .i64 P, .bool my]) ∧ Below w.heap.size w w' := by
  have hn : ¬ X < Y := by omega
  cases my
  · go_enter Tryd.func109, Tryd.ntmps109
    go_wp2
    exact bodyPost_ret (v := .agg #[.bool nx, .int .u64 (X - Y), .int .i64 P, .bool false]) (by simp [results, Tryd.results109, go_sem]) rfl ⟨rfl, by repeat (first | (with_reducible refine Below.setCell ?_ (by first | omega | (simp; try omega)) _) | (with_reducible refine Below.alloc ?_ (by first | omega | (simp; try omega)) _) | (with_reducible exact Below.refl _ _))⟩
  · have hm' := hm rfl
    clear hm
    go_enter Tryd.func109, Tryd.ntmps109
    go_wp2
    exact bodyPost_ret (v := .agg #[.bool nx, .int .u64 (X - Y - 1), .int .i64 P, .bool true]) (by simp [results, Tryd.results109, go_sem]) rfl ⟨rfl, by repeat (first | (with_reducible refine Below.setCell ?_ (by first | omega | (simp; try omega)) _) | (with_reducible refine Below.alloc ?_ (by first | omega | (simp; try omega)) _) | (with_reducible exact Below.refl _ _))⟩
set_option maxHeartbeats 2000000 in
theorem diff_lt (nx ny : Bool) (X Y P Q : Int) (w : World) (x0 : 0 ≤ X) (h : X < Y) (y1 : Y < 18446744073709551616) :
    Calls Tryd.prog 109 #[.agg #[.bool nx, .int .u64 X, .int .i64 P, .bool false], .agg #[.bool ny, .int .u64 Y, .int .i64 Q, .bool false]] w fun e w' => e = .returned (.agg #[.bool ny, .int .u64 (Y - X), .int .i64 Q, .bool false]) ∧ Below w.heap.size w w' := by
  go_enter Tryd.func109, Tryd.ntmps109
  go_wp2
  exact bodyPost_ret (v := .agg #[.bool ny, .int .u64 (Y - X), .int .i64 Q, .bool false]) (by simp [results, Tryd.results109, go_sem]) rfl ⟨rfl, by repeat (first | (with_reducible refine Below.setCell ?_ (by first | omega | (simp; try omega)) _) | (with_reducible refine Below.alloc ?_ (by first | omega | (simp; try omega)) _) | (with_reducible exact Below.refl _ _))⟩
end Go.Proofs.YtlcfpcapefeajaaDoor
