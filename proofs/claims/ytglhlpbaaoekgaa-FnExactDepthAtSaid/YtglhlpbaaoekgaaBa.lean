/- A tri as a parameter; GoodTri and AreaOf of both sides. -/
import Derived.Test.YtglhlpbaaoekgaaAb
namespace Go.Proofs.Ytglhlpbaaoekgaa
open Go.ChangeShapes Go.WideShapes Go.ChangeAt Go.RowKit
set_option linter.unusedVariables false
section
variable {H : Type} {enc : TypeId × Value → H} {P : Program} {W : World}
theorem trod3 {e : TypeId} {f0 f1 f2 : Field} {fuel : Nat} {v0 v1 v2 : Value} {d : DataW H × List MemPlace} (he : P.underlying e = some (.struct #[f0, f1, f2]))
    (o0 : f0.offset = 0) (o1 : f1.offset = 1) (o2 : f2.offset = 2) (c0 : P.cellsOf f0.type = 1) (c1 : P.cellsOf f1.type = 1) (c2 : P.cellsOf f2.type = 1) (u0 : P.underlying f0.type = some (.int .i64)) (u1 : P.underlying f1.type = some (.int .i64)) (u2 : P.underlying f2.type = some (.int .i64))
    (h : DataW.trod enc P W 0 (fun _ => true) true fuel e [v0, v1, v2] = some d) : ∃ n0 n1 n2 : Int, v0 = .int .i64 n0 ∧ v1 = .int .i64 n1 ∧ v2 = .int .i64 n2 := by
  obtain ⟨xs, k, hk, hxy, _, hxl, hf⟩ := DataW.trod_struct he h
  match xs, hxl with
  | [y0, y1, y2], _ =>
    have g0 := hf 0 f0 rfl
    have g1 := hf 1 f1 rfl
    have g2 := hf 2 f2 rfl
    simp [o0, o1, o2, c0, c1, c2] at g0 g1 g2
    obtain ⟨n0, hv0, _, hw0⟩ := DataW.trod_int u0 g0
    obtain ⟨n1, hv1, _, hw1⟩ := DataW.trod_int u1 g1
    obtain ⟨n2, hv2, _, hw2⟩ := DataW.trod_int u2 g2
    simp only [List.cons.injEq, and_true] at hv0 hv1 hv2
    exact ⟨n0, n1, n2, hv0, hv1, hv2⟩
theorem trod4 {e : TypeId} {f0 f1 f2 f3 : Field} {fuel : Nat} {v0 v1 v2 v3 : Value} {d : DataW H × List MemPlace} (he : P.underlying e = some (.struct #[f0, f1, f2, f3]))
    (o0 : f0.offset = 0) (o1 : f1.offset = 1) (o2 : f2.offset = 2) (o3 : f3.offset = 3) (c0 : P.cellsOf f0.type = 1) (c1 : P.cellsOf f1.type = 1) (c2 : P.cellsOf f2.type = 1) (c3 : P.cellsOf f3.type = 1) (u0 : P.underlying f0.type = some (.int .i64)) (u1 : P.underlying f1.type = some (.int .i64)) (u2 : P.underlying f2.type = some (.int .i64)) (u3 : P.underlying f3.type = some (.int .i64))
    (h : DataW.trod enc P W 0 (fun _ => true) true fuel e [v0, v1, v2, v3] = some d) : ∃ n0 n1 n2 n3 : Int, v0 = .int .i64 n0 ∧ v1 = .int .i64 n1 ∧ v2 = .int .i64 n2 ∧ v3 = .int .i64 n3 := by
  obtain ⟨xs, k, hk, hxy, _, hxl, hf⟩ := DataW.trod_struct he h
  match xs, hxl with
  | [y0, y1, y2, y3], _ =>
    have g0 := hf 0 f0 rfl
    have g1 := hf 1 f1 rfl
    have g2 := hf 2 f2 rfl
    have g3 := hf 3 f3 rfl
    simp [o0, o1, o2, o3, c0, c1, c2, c3] at g0 g1 g2 g3
    obtain ⟨n0, hv0, _, hw0⟩ := DataW.trod_int u0 g0
    obtain ⟨n1, hv1, _, hw1⟩ := DataW.trod_int u1 g1
    obtain ⟨n2, hv2, _, hw2⟩ := DataW.trod_int u2 g2
    obtain ⟨n3, hv3, _, hw3⟩ := DataW.trod_int u3 g3
    simp only [List.cons.injEq, and_true] at hv0 hv1 hv2 hv3
    exact ⟨n0, n1, n2, n3, hv0, hv1, hv2, hv3⟩
end
set_option maxRecDepth 100000 in
theorem viewT {H : Type} {enc : TypeId × Value → H} {W : World} {base : Nat} {v : Value} {d : DataW H} {p : List MemPlace}
    (hok : Value.okWide Try.prog W .any base 43 v) (h : DataW.Trod enc Try.prog W 0 (fun _ => true) true 43 v d p) :
    ∃ (ux uy uz vx vy vz sx sy sz kr kg kb ka : Int), v = .agg #[.int .i64 ux, .int .i64 uy, .int .i64 uz, .int .i64 vx, .int .i64 vy, .int .i64 vz, .int .i64 sx, .int .i64 sy, .int .i64 sz, .int .i64 kr, .int .i64 kg, .int .i64 kb, .int .i64 ka] := by
  obtain ⟨cs, rfl, hs⟩ := okWide_struct Try.underlying43 hok
  obtain ⟨fuel, h2⟩ := h
  have hc : Try.prog.cellsOf 43 = 13 := by kernel_rfl
  have c3 : Try.prog.cellsOf 40 = 3 := by kernel_rfl
  have c4 : Try.prog.cellsOf 41 = 4 := by kernel_rfl
  rw [hc] at hs
  obtain ⟨l⟩ := cs
  simp only [Value.cells] at h2
  obtain ⟨xs, k, hk, hxy, _, hxl, hf⟩ := DataW.trod_struct Try.underlying43 h2
  match xs, hxl, l, hs with
  | [y0, y1, y2, y3], _, [v0, v1, v2, v3, v4, v5, v6, v7, v8, v9, v10, v11, v12], _ =>
    have g0 := hf 0 _ rfl
    have g1 := hf 1 _ rfl
    have g2 := hf 2 _ rfl
    have g3 := hf 3 _ rfl
    simp [c3, c4] at g0 g1 g2 g3
    obtain ⟨a0, a1, a2, rfl, rfl, rfl⟩ := trod3 Try.underlying40 rfl rfl rfl (by kernel_rfl) (by kernel_rfl) (by kernel_rfl) Try.underlying3 Try.underlying3 Try.underlying3 g0
    obtain ⟨b0, b1, b2, rfl, rfl, rfl⟩ := trod3 Try.underlying40 rfl rfl rfl (by kernel_rfl) (by kernel_rfl) (by kernel_rfl) Try.underlying3 Try.underlying3 Try.underlying3 g1
    obtain ⟨d0, d1, d2, rfl, rfl, rfl⟩ := trod3 Try.underlying40 rfl rfl rfl (by kernel_rfl) (by kernel_rfl) (by kernel_rfl) Try.underlying3 Try.underlying3 Try.underlying3 g2
    obtain ⟨e0, e1, e2, e3, rfl, rfl, rfl, rfl⟩ := trod4 Try.underlying41 rfl rfl rfl rfl (by kernel_rfl) (by kernel_rfl) (by kernel_rfl) (by kernel_rfl) Try.underlying3 Try.underlying3 Try.underlying3 Try.underlying3 g3
    exact ⟨_, _, _, _, _, _, _, _, _, _, _, _, _, rfl⟩
/-- A place is in -4096..4096. -/
def inP (x : Int) : Bool := decide (-4096 ≤ x) && decide (x ≤ 4096)
def ptB (x y : Int) : Bool := inP x && inP y
def inZ (x : Int) : Bool := decide (0 ≤ x) && decide (x ≤ 65535)
def cnB (x y z : Int) : Bool := ptB x y && inZ z
/-- A good tri. -/
def trB (ux uy uz vx vy vz sx sy sz kr kg kb ka : Int) : Bool := cnB ux uy uz && (cnB vx vy vz && (cnB sx sy sz && gdC kr kg kb ka))
theorem inP_iff {x : Int} : inP x = true ↔ -4096 ≤ x ∧ x ≤ 4096 := by unfold inP; rw [Bool.and_eq_true, decide_eq_true_eq, decide_eq_true_eq]
theorem inZ_iff {x : Int} : inZ x = true ↔ 0 ≤ x ∧ x ≤ 65535 := by unfold inZ; rw [Bool.and_eq_true, decide_eq_true_eq, decide_eq_true_eq]
theorem ptB_iff {x y : Int} : ptB x y = true ↔ (-4096 ≤ x ∧ x ≤ 4096) ∧ -4096 ≤ y ∧ y ≤ 4096 := by unfold ptB; rw [Bool.and_eq_true, inP_iff, inP_iff]
theorem cnB_iff {x y z : Int} : cnB x y z = true ↔ ((-4096 ≤ x ∧ x ≤ 4096) ∧ -4096 ≤ y ∧ y ≤ 4096) ∧ 0 ≤ z ∧ z ≤ 65535 := by unfold cnB; rw [Bool.and_eq_true, ptB_iff, inZ_iff]
theorem toCn (x y z : Int) (w : World) : Calls Try.prog 57 #[.agg #[.int .i64 x, .int .i64 y, .int .i64 z]] w fun e w' => e = .returned (.agg #[.int .i64 x, .int .i64 y, .int .i64 z]) ∧ Below w.heap.size w w' := by
  go_enter Try.func57, Try.ntmps57
  go_wp2
  exact bodyPost_ret (v := .agg #[.int .i64 x, .int .i64 y, .int .i64 z]) (by simp [results, Try.results57, go_sem]) rfl ⟨rfl, b3⟩
set_option maxHeartbeats 2000000 in
theorem mpoint (x y : Int) (w : World) : Calls Try.prog 61 #[.int .i64 x, .int .i64 y] w fun e w' => e = .returned (.bool (ptB x y)) ∧ w' = w := by
  by_cases h0 : -4096 ≤ x
  case neg =>
    have hq : ptB x y = false := by cases h : ptB x y; rfl; have := ptB_iff.1 h; omega
    rw [hq]
    clear hq
    go_enter Try.func61, Try.ntmps61
    go_wp2
    go_ret
    exact ⟨rfl, rfl⟩
  by_cases h1 : x ≤ 4096
  case neg =>
    have hq : ptB x y = false := by cases h : ptB x y; rfl; have := ptB_iff.1 h; omega
    rw [hq]
    clear hq
    go_enter Try.func61, Try.ntmps61
    go_wp2
    go_ret
    exact ⟨rfl, rfl⟩
  by_cases h2 : -4096 ≤ y
  case neg =>
    have hq : ptB x y = false := by cases h : ptB x y; rfl; have := ptB_iff.1 h; omega
    rw [hq]
    clear hq
    go_enter Try.func61, Try.ntmps61
    go_wp2
    go_ret
    exact ⟨rfl, rfl⟩
  by_cases h3 : y ≤ 4096
  case neg =>
    have hq : ptB x y = false := by cases h : ptB x y; rfl; have := ptB_iff.1 h; omega
    rw [hq]
    clear hq
    go_enter Try.func61, Try.ntmps61
    go_wp2
    go_ret
    exact ⟨rfl, rfl⟩
  have hq : ptB x y = true := ptB_iff.2 (by omega)
  rw [hq]
  clear hq
  go_enter Try.func61, Try.ntmps61
  go_wp2
  go_ret
  exact ⟨rfl, rfl⟩
set_option maxHeartbeats 2000000 in
theorem ppoint (x y : Int) (w : World) : Calls Try.prog 64 #[.int .i64 x, .int .i64 y] w fun e w' => e = .returned (.bool (ptB x y)) ∧ w' = w := by
  obtain ⟨bb, hb⟩ : ∃ b, ptB x y = b := ⟨_, rfl⟩
  rw [hb]
  cases bb
  all_goals by_cases h0 : -4096 ≤ x
  all_goals by_cases h1 : x ≤ 4096
  all_goals by_cases h2 : -4096 ≤ y
  all_goals by_cases h3 : y ≤ 4096
  all_goals rcases Int.lt_trichotomy x y with h4 | h4 | h4
  all_goals first | subst h4 | skip
  all_goals first | (exfalso; omega) | skip
  all_goals first | (exfalso; have := ptB_iff.1 hb; omega) | (exfalso; rw [Bool.eq_false_iff] at hb; exact hb (ptB_iff.2 (by omega))) | skip
  all_goals
    clear hb
    go_enter Try.func64, Try.ntmps64
    go_wp2
    go_ret
    first | exact ⟨rfl, rfl⟩ | (refine ⟨?_, rfl⟩; simp; omega)
set_option maxHeartbeats 2000000 in
theorem mcorner (x y z : Int) (w : World) : Calls Try.prog 53 #[.agg #[.int .i64 x, .int .i64 y, .int .i64 z]] w fun e w' => e = .returned (.bool (cnB x y z)) ∧ Below w.heap.size w w' := by
  by_cases h0 : -4096 ≤ x
  case neg =>
    have hq : cnB x y z = false := by cases h : cnB x y z; rfl; have := cnB_iff.1 h; omega
    rw [hq]
    clear hq
    go_enter Try.func53, Try.ntmps53
    go_wp2
    go_ret
    exact ⟨rfl, alloc_b⟩
  by_cases h1 : x ≤ 4096
  case neg =>
    have hq : cnB x y z = false := by cases h : cnB x y z; rfl; have := cnB_iff.1 h; omega
    rw [hq]
    clear hq
    go_enter Try.func53, Try.ntmps53
    go_wp2
    go_ret
    exact ⟨rfl, alloc_b⟩
  by_cases h2 : -4096 ≤ y
  case neg =>
    have hq : cnB x y z = false := by cases h : cnB x y z; rfl; have := cnB_iff.1 h; omega
    rw [hq]
    clear hq
    go_enter Try.func53, Try.ntmps53
    go_wp2
    go_ret
    exact ⟨rfl, alloc_b⟩
  by_cases h3 : y ≤ 4096
  case neg =>
    have hq : cnB x y z = false := by cases h : cnB x y z; rfl; have := cnB_iff.1 h; omega
    rw [hq]
    clear hq
    go_enter Try.func53, Try.ntmps53
    go_wp2
    go_ret
    exact ⟨rfl, alloc_b⟩
  by_cases h4 : 0 ≤ z
  case neg =>
    have hq : cnB x y z = false := by cases h : cnB x y z; rfl; have := cnB_iff.1 h; omega
    rw [hq]
    clear hq
    go_enter Try.func53, Try.ntmps53
    go_wp2
    go_ret
    exact ⟨rfl, alloc_b⟩
  by_cases h5 : z ≤ 65535
  case neg =>
    have hq : cnB x y z = false := by cases h : cnB x y z; rfl; have := cnB_iff.1 h; omega
    rw [hq]
    clear hq
    go_enter Try.func53, Try.ntmps53
    go_wp2
    go_ret
    exact ⟨rfl, alloc_b⟩
  have hq : cnB x y z = true := cnB_iff.2 (by omega)
  rw [hq]
  clear hq
  go_enter Try.func53, Try.ntmps53
  go_wp2
  go_ret
  exact ⟨rfl, alloc_b⟩
set_option maxHeartbeats 2000000 in
theorem pcorner (x y z : Int) (w : World) : Calls Try.prog 58 #[.agg #[.int .i64 x, .int .i64 y, .int .i64 z]] w fun e w' => e = .returned (.bool (cnB x y z)) ∧ Below w.heap.size w w' := by
  have hp : Hid (∀ w', Calls Try.prog 64 #[.int .i64 x, .int .i64 y] w' fun e w'' => e = .returned (.bool (ptB x y)) ∧ w'' = w') := fun w' => ppoint x y w'
  have hc : cnB x y z = (ptB x y && inZ z) := rfl
  rw [hc]
  clear hc
  generalize ptB x y = pb at hp
  cases pb
  case false =>
    rw [Bool.false_and]
    go_enter Try.func58, Try.ntmps58
    go_wp2_with (go_at_call 64; refine (hp.out _).mono ?_; rintro e w2 ⟨rfl, hw⟩; subst w2)
    go_ret
    first | exact ⟨rfl, alloc_b⟩ | (refine ⟨?_, alloc_b⟩; simp; omega)
  rw [Bool.true_and]
  by_cases h4 : 0 ≤ z
  case neg =>
    have hq : inZ z = false := by cases h : inZ z; rfl; have := inZ_iff.1 h; omega
    rw [hq]
    clear hq
    go_enter Try.func58, Try.ntmps58
    go_wp2_with (go_at_call 64; refine (hp.out _).mono ?_; rintro e w2 ⟨rfl, hw⟩; subst w2)
    go_ret
    first | exact ⟨rfl, alloc_b⟩ | (refine ⟨?_, alloc_b⟩; simp; omega)
  by_cases h5 : z ≤ 65535
  case neg =>
    have hq : inZ z = false := by cases h : inZ z; rfl; have := inZ_iff.1 h; omega
    rw [hq]
    clear hq
    go_enter Try.func58, Try.ntmps58
    go_wp2_with (go_at_call 64; refine (hp.out _).mono ?_; rintro e w2 ⟨rfl, hw⟩; subst w2)
    go_ret
    first | exact ⟨rfl, alloc_b⟩ | (refine ⟨?_, alloc_b⟩; simp; omega)
  have hq : inZ z = true := inZ_iff.2 (by omega)
  rw [hq]
  clear hq
  go_enter Try.func58, Try.ntmps58
  go_wp2_with (go_at_call 64; refine (hp.out _).mono ?_; rintro e w2 ⟨rfl, hw⟩; subst w2)
  go_ret
  first | exact ⟨rfl, alloc_b⟩ | (refine ⟨?_, alloc_b⟩; simp; omega)
end Go.Proofs.Ytglhlpbaaoekgaa
