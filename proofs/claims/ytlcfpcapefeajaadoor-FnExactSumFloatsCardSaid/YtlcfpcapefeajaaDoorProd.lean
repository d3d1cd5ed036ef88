/- Contracts of the program's productOf, and of MulWords, the program's and the model's, by the kinds of the two words. -/
import Derived.Test.YtlcfpcapefeajaaDoorWords
namespace Go.Proofs.YtlcfpcapefeajaaDoor
open Go.ChangeShapes Go.WideShapes Go.ChangeAt Go.RowKit
set_option linter.unusedVariables false
theorem blk4 {w : World} {b : Nat} {x0 x1 x2 x3 : Value} {t : TypeId} (h : w.heap[b]? = some (.cells #[x0, x1, x2, x3] t (0, 0))) :
    (w.cell? ⟨b, 0, none⟩ = some x0 ∧ w.cell? ⟨b, 1, none⟩ = some x1 ∧ w.cell? ⟨b, 2, none⟩ = some x2 ∧ w.cell? ⟨b, 3, none⟩ = some x3) ∧ (w.frozen? ⟨b, 0, none⟩ = false ∧ w.frozen? ⟨b, 1, none⟩ = false ∧ w.frozen? ⟨b, 2, none⟩ = false ∧ w.frozen? ⟨b, 3, none⟩ = false) := by
  refine ⟨⟨?_, ?_, ?_, ?_⟩, ?_, ?_, ?_, ?_⟩ <;> simp [World.cell?, World.frozen?, h]
set_option maxHeartbeats 2000000 in
theorem prod59 (a b : Int) (a0 : 0 ≤ a) (a1 : a < 4294967296) (b0 : 0 ≤ b) (b1 : b < 4294967296) (w : World) (G : Forms w) (s t S T p q Z E : Int) (SA SB : Bool)
    (hSA : decide (2147483648 ≤ a) = SA) (hSB : decide (2147483648 ≤ b) = SB) (hs : exS (a % 2147483648) = s) (ht : exS (b % 2147483648) = t) (hp : exP (a % 2147483648) = p) (hq : exP (b % 2147483648) = q)
    (s0 : 0 ≤ s) (s1 : s < 16777216) (t0 : 0 ≤ t) (t1 : t < 16777216) (p0 : -149 ≤ p) (p1 : p ≤ 105) (q0 : -149 ≤ q) (q1 : q ≤ 105) (hZ : s * t = Z) (z0 : 0 ≤ Z) (z1 : Z < 281474976710656) (hE : p + q = E) :
    Calls Tryd.prog 57 #[.int .u32 a, .int .u32 b] w fun e w' => e = .returned (.agg #[.bool (SA != SB), .int .u64 Z, .int .i64 E, .bool false]) ∧ Below w.heap.size w w' := by
  have hA := fun v (Gv : Forms v) => exactOf_w a a0 a1 v Gv
  have hB := fun v (Gv : Forms v) => exactOf_w b b0 b1 v Gv
  rw [hSA, hs, hp] at hA
  rw [hSB, ht, hq] at hB
  have HA : Hid (∀ v : World, Forms v → Calls Tryd.prog 78 #[.int .u32 a, .int .i64 0] v fun e w' => e = .returned (.agg #[.bool SA, .int .u64 s, .int .i64 p, .bool false]) ∧ Below v.heap.size v w') := hA
  have HB : Hid (∀ v : World, Forms v → Calls Tryd.prog 78 #[.int .u32 b, .int .i64 0] v fun e w' => e = .returned (.agg #[.bool SB, .int .u64 t, .int .i64 q, .bool false]) ∧ Below v.heap.size v w') := hB
  have HE : Hid (p + q = E) := hE
  clear hA hB hSA hSB hs ht hp hq hE
  have G0 : Forms (w.alloc (.cells #[.bool false, .int .u64 0, .int .i64 0, .bool false] 72)) := G.next (al _ _)
  go_enter Tryd.func57, Tryd.ntmps57
  go_wp2_with (first | (go_at_call 78; (with_reducible show Calls Tryd.prog 78 _ (w.alloc _) _); refine ((Hid.out HA) _ G0).mono ?_; rintro e w1 ⟨rfl, hb1⟩; have hz1 := hb1.size; (try simp at hz1)) | (go_at_call 78; refine ((Hid.out HB) w1 (G0.next hb1)).mono ?_; rintro e w2 ⟨rfl, hb2⟩; have hz2 := hb2.size; (have X2 := (hb2.block w.heap.size (by omega)).trans ((hb1.block w.heap.size (by simp)).trans (heap_alloc_new _ _))); obtain ⟨⟨x0, x1, x2, x3⟩, y0, y1, y2, y3⟩ := blk4 X2; (have hlt : w.heap.size < w2.heap.size := by omega)))
  exact bodyPost_ret (v := .agg #[.bool (SA != SB), .int .u64 Z, .int .i64 E, .bool false]) (by have hE := HE.out; simp [results, Tryd.results57, go_sem, x0, x1, x2, x3, hE, hlt, show w.heap.size < w2.heap.size + 1 by omega]; cases SA <;> cases SB <;> rfl) rfl ⟨rfl, by repeat (first | (with_reducible refine Below.setCell ?_ (by first | omega | (simp; try omega)) _) | (with_reducible refine Below.alloc ?_ (by first | omega | (simp; try omega)) _) | (with_reducible apply Below.drew) | (with_reducible apply below_drewN) | (with_reducible exact Below.refl _ _) | (with_reducible refine Below.trans ?_ (hb2.mono (by first | omega | (simp; try omega)))) | (with_reducible refine Below.trans ?_ (hb1.mono (by first | omega | (simp; try omega)))))⟩
/-- What noughtAndInfinite says of two kinds. -/
theorem noughtInf (x y : Int) (hx : 0 ≤ x) (hx3 : x ≤ 3) (hy : 0 ≤ y) (hy3 : y ≤ 3) (w : World) :
    Calls Tryd.prog 54 #[.int .i64 x, .int .i64 y] w fun e w' => e = .returned (.bool (decide (x = 0 ∧ y = 2 ∨ x = 2 ∧ y = 0))) ∧ w' = w := by
  rcases (by omega : x = 0 ∨ x = 1 ∨ x = 2 ∨ x = 3) with rfl | rfl | rfl | rfl <;> rcases (by omega : y = 0 ∨ y = 1 ∨ y = 2 ∨ y = 3) with rfl | rfl | rfl | rfl
  all_goals
    go_enter Tryd.func54, Tryd.ntmps54
    go_wp2
    go_ret
    exact ⟨rfl, rfl⟩
theorem kind_bd (r : Int) : 0 ≤ kindI r ∧ kindI r ≤ 3 := by unfold kindI; repeat' split
                                                            all_goals omega
/-- A word's kind, and what the model's questions answer of it. -/
theorem kind_tests (r : Int) (h0 : 0 ≤ r) : decide (2139095040 < r) = decide (kindI r = 3) ∧ decide (r = 2139095040) = decide (kindI r = 2) ∧ decide (r = 0) = decide (kindI r = 0) := by
  unfold kindI
  refine ⟨?_, ?_, ?_⟩ <;> rw [Bool.eq_iff_iff] <;> simp only [decide_eq_true_eq] <;> (repeat' split) <;> omega
theorem or_inf (neg : Bool) : bits .or .u32 (if neg = true then 2147483648 else 0) 2139095040 = sgn_w neg 2139095040 := by
  cases neg
  · have h := u32_or_nat 0 2139095040 (by decide) (by decide)
    simpa [sgn_w] using h
  · have h := u32_or_nat 2147483648 2139095040 (by decide) (by decide)
    have e : (2147483648 : Nat) ||| 2139095040 = 4286578688 := by decide
    rw [e] at h
    simpa [sgn_w] using h
end Go.Proofs.YtlcfpcapefeajaaDoor
