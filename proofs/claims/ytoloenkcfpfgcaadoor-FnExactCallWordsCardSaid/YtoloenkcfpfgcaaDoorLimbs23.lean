/- Contract of the model's l1Cmp over numbers that are not both small, by what they stand for. -/
import Derived.Test.YtoloenkcfpfgcaaDoorLimbs22
import Derived.Deep.DeepCutAuto
namespace Go.Proofs.YtoloenkcfpfgcaaDoor
open Go.ChangeShapes Go.WideShapes Go.ChangeAt Go.RowKit
/-- Two numbers as they stand in memory behind an entry. -/
structure Args2 (k : Nat) (w0 w : World) (p0 p1 p2 q0 q1 q2 : Value) : Prop where
  A : w.heap[k]? = some (.cells #[p0, p1, p2] 50 (0, 0))
  B : w.heap[k + 1]? = some (.cells #[q0, q1, q2] 50 (0, 0))
  below : Below k w0 w
  big : k + 2 ≤ w.heap.size
theorem Args2.next {k : Nat} {w0 w w' : World} {p0 p1 p2 q0 q1 q2 : Value} (h : Args2 k w0 w p0 p1 p2 q0 q1 q2) (hb : Below w.heap.size w w') : Args2 k w0 w' p0 p1 p2 q0 q1 q2 := by
  have z := h.big
  have zz := hb.size
  exact ⟨(hb.block _ (by omega)).trans h.A, (hb.block _ (by omega)).trans h.B, h.below.trans (hb.mono (by omega)), by omega⟩
theorem Args2.drew {k : Nat} {w0 w : World} {p0 p1 p2 q0 q1 q2 : Value} (h : Args2 k w0 w p0 p1 p2 q0 q1 q2) : Args2 k w0 w.drew p0 p1 p2 q0 q1 q2 := ⟨h.A, h.B, h.below.drew, h.big⟩
theorem Args2.start {w : World} {p0 p1 p2 q0 q1 q2 : Value} : Args2 w.heap.size w ((w.alloc (.cells #[p0, p1, p2] 50)).alloc (.cells #[q0, q1, q2] 50)) p0 p1 p2 q0 q1 q2 := by
  refine ⟨(Below.heap_alloc _ _ _ (by simp)).trans (heap_alloc_new _ _), heap_alloc_eq (by simp), ?_, by simp⟩
  exact ((Below.refl _ _).alloc (by simp) _).alloc (by simp) _

set_option linter.unusedVariables false in
set_option maxRecDepth 100000 in
set_option maxHeartbeats 4000000 in
theorem rCmp_G (sb : Bool) (n : Nat) (x : Nat → Nat) (va : Int) (ga : Bool) (pa : Option Addr) (ta ca : Nat) (m : Nat) (y : Nat → Nat) (vb : Int) (gb : Bool) (pb : Option Addr) (tb cb : Nat) (w : World) (RA : Rep w (.agg #[.int .i64 va, .bool ga, .slice pa ta ca]) false false n x) (RB : Rep w (.agg #[.int .i64 vb, .bool gb, .slice pb tb cb]) sb false m y) (tx : x (n - 1) ≠ 0) (ty : y (m - 1) ≠ 0) :
    Calls Tryd.prog 42 #[.agg #[.int .i64 va, .bool ga, .slice pa ta ca], .agg #[.int .i64 vb, .bool gb, .slice pb tb cb]] w fun r w' => r = .returned (.int .i64 (cmpZ (val x n) (val y m))) ∧ Below w.heap.size w w' := by
  have hn := RA.len
  have hx := RA.lt
  have hm := RB.len
  have hy := RB.lt
  go_enter Tryd.func42, Tryd.ntmps42
  go_wp2_with (first | (go_at_call 61; (with_reducible show Calls Tryd.prog 61 #[Value.agg #[Value.int IntKind.i64 va, Value.bool ga, Value.slice pa ta ca]] _ _); refine (RA.sm _ Args2.start.below).mono ?_; rintro e w1 ⟨rfl, hb1⟩; have R1 := Args2.start.next hb1; obtain ⟨⟨u0, u1, u2⟩, _⟩ := blk3 R1.A; obtain ⟨⟨v0, v1, v2⟩, _⟩ := blk3 R1.B))
  go_cut [26] (fun tv wx => tv = .bool false ∧ Args2 w.heap.size w wx (.int .i64 va) (.bool ga) (.slice pa ta ca) (.int .i64 vb) (.bool gb) (.slice pb tb cb))
  case first =>
    go_region_with (first | (go_at_call 65; (with_reducible show Calls Tryd.prog 65 #[Value.agg #[Value.int IntKind.i64 va, Value.bool ga, Value.slice pa ta ca]] _ _); refine (RA.ng _ R1.drew.below).mono ?_; rintro e w4 ⟨rfl, hb4⟩; have R4 := R1.drew.next hb4; obtain ⟨⟨m0, m1, m2⟩, _⟩ := blk3 R4.B) | (go_at_call 65; (with_reducible show Calls Tryd.prog 65 #[Value.agg #[Value.int IntKind.i64 vb, Value.bool gb, Value.slice pb tb cb]] _ _); refine (RB.ng _ R4.below).mono ?_; rintro e w5 ⟨rfl, hb5⟩; have R5 := R4.next hb5; obtain ⟨⟨n0, n1, n2⟩, _⟩ := blk3 R5.A; obtain ⟨⟨o0, o1, o2⟩, _⟩ := blk3 R5.B))
    all_goals go_wp2_with fail
    all_goals go_meet
    all_goals exact ⟨rfl, R5⟩
  case rest =>
    clear u0 u1 u2 v0 v1 v2 R1
    obtain ⟨rfl, R5⟩ := hcut
    obtain ⟨⟨n0, n1, n2⟩, _⟩ := blk3 R5.A
    obtain ⟨⟨o0, o1, o2⟩, _⟩ := blk3 R5.B
    go_wp2_with fail
    go_cut [5] (fun cv wx => cv = .int .i64 (cmpZ (val x n) (val y m)) ∧ Args2 w.heap.size w wx (.int .i64 va) (.bool ga) (.slice pa ta ca) (.int .i64 vb) (.bool gb) (.slice pb tb cb))
    case first =>
      go_region_with (first | (go_at_call 63; (with_reducible show Calls Tryd.prog 63 #[Value.agg #[Value.int IntKind.i64 va, Value.bool ga, Value.slice pa ta ca]] _ _); refine (RA.lm _ R5.drew.below).mono ?_; rintro e w6 ⟨a, ca', rfl, ha, la, hb6⟩; have R6 := R5.drew.next hb6; obtain ⟨⟨q0, q1, q2⟩, _⟩ := blk3 R6.B) | (go_at_call 63; (with_reducible show Calls Tryd.prog 63 #[Value.agg #[Value.int IntKind.i64 vb, Value.bool gb, Value.slice pb tb cb]] _ _); refine (RB.lm _ R6.below).mono ?_; rintro e w7 ⟨b, cb', rfl, hb, lb, hb7⟩; have R7 := R6.next hb7) | (go_at_call 68; refine (cmpD_val n m a b ca' cb' x y w7 (by omega) (fun j hj => (hb7.cell (p := ⟨a, j, none⟩) la).trans (ha j hj)) hb hx hy tx ty).mono ?_; rintro e w8 ⟨rfl, q, hq⟩; (have hb8 : Below w7.heap.size w7 w8 := by rw [hq]; exact below_drewN (Below.refl _ _) q); clear hq; have R8 := R7.next hb8; obtain ⟨⟨p0, p1, p2⟩, _⟩ := blk3 R8.A))
      all_goals go_wp2_with fail
      all_goals go_meet
      all_goals exact ⟨rfl, R8⟩
    case rest =>
      clear n0 n1 n2 o0 o1 o2 R5
      obtain ⟨rfl, R8⟩ := hcut
      obtain ⟨⟨p0, p1, p2⟩, _⟩ := blk3 R8.A
      go_wp2_with (go_at_call 65; (with_reducible show Calls Tryd.prog 65 #[Value.agg #[Value.int IntKind.i64 va, Value.bool ga, Value.slice pa ta ca]] _ _); refine (RA.ng _ R8.below).mono ?_; rintro e w9 ⟨rfl, hb9⟩; have R9 := R8.next hb9)
      go_ret
      exact ⟨rfl, R9.below⟩

set_option linter.unusedVariables false in
set_option maxRecDepth 100000 in
set_option maxHeartbeats 4000000 in
theorem rCmp_ZG (m : Nat) (y : Nat → Nat) (vb : Int) (gb : Bool) (pb : Option Addr) (tb cb : Nat) (w : World) (RB : Rep w (.agg #[.int .i64 vb, .bool gb, .slice pb tb cb]) false false m y) (m0' : 0 < m) :
    Calls Tryd.prog 42 #[.agg #[.int .i64 0, .bool false, .slice none 0 0], .agg #[.int .i64 vb, .bool gb, .slice pb tb cb]] w fun r w' => r = .returned (.int .i64 (-1)) ∧ Below w.heap.size w w' := by
  have hm := RB.len
  have hy := RB.lt
  go_enter Tryd.func42, Tryd.ntmps42
  go_wp2_with (first | (go_at_call 61; (with_reducible show Calls Tryd.prog 61 #[Value.agg #[Value.int IntKind.i64 0, Value.bool false, Value.slice none 0 0]] _ _); refine (sm0 _).mono ?_; rintro e w1 ⟨rfl, hb1⟩; have R1 := Args2.start.next hb1; obtain ⟨⟨u0, u1, u2⟩, _⟩ := blk3 R1.A; obtain ⟨⟨v0, v1, v2⟩, _⟩ := blk3 R1.B) | (go_at_call 61; (with_reducible show Calls Tryd.prog 61 #[Value.agg #[Value.int IntKind.i64 vb, Value.bool gb, Value.slice pb tb cb]] _ _); refine (RB.sm _ R1.below).mono ?_; rintro e w1b ⟨rfl, hb1b⟩; have R1b := R1.next hb1b; obtain ⟨⟨y0, y1, y2⟩, _⟩ := blk3 R1b.A; obtain ⟨⟨yy0, yy1, yy2⟩, _⟩ := blk3 R1b.B))
  go_cut [26] (fun tv wx => tv = .bool false ∧ Args2 w.heap.size w wx (.int .i64 0) (.bool false) (.slice none 0 0) (.int .i64 vb) (.bool gb) (.slice pb tb cb))
  case first =>
    go_region_with (first | (go_at_call 65; (with_reducible show Calls Tryd.prog 65 #[Value.agg #[Value.int IntKind.i64 0, Value.bool false, Value.slice none 0 0]] _ _); refine (zNeg 0 _).mono ?_; rintro e w4 ⟨rfl, hb4⟩; have R4 := R1b.drew.next hb4; obtain ⟨⟨m0, m1, m2⟩, _⟩ := blk3 R4.B) | (go_at_call 65; (with_reducible show Calls Tryd.prog 65 #[Value.agg #[Value.int IntKind.i64 vb, Value.bool gb, Value.slice pb tb cb]] _ _); refine (RB.ng _ R4.below).mono ?_; rintro e w5 ⟨rfl, hb5⟩; have R5 := R4.next hb5; obtain ⟨⟨n0, n1, n2⟩, _⟩ := blk3 R5.A; obtain ⟨⟨o0, o1, o2⟩, _⟩ := blk3 R5.B))
    all_goals go_wp2_with fail
    all_goals go_meet
    all_goals exact ⟨rfl, R5⟩
  case rest =>
    clear u0 u1 u2 v0 v1 v2 y0 y1 y2 yy0 yy1 yy2 R1b R1
    obtain ⟨rfl, R5⟩ := hcut
    obtain ⟨⟨n0, n1, n2⟩, _⟩ := blk3 R5.A
    obtain ⟨⟨o0, o1, o2⟩, _⟩ := blk3 R5.B
    go_wp2_with fail
    go_cut [5] (fun cv wx => cv = .int .i64 (-1) ∧ Args2 w.heap.size w wx (.int .i64 0) (.bool false) (.slice none 0 0) (.int .i64 vb) (.bool gb) (.slice pb tb cb))
    case first =>
      go_region_with (first | (go_at_call 63; (with_reducible show Calls Tryd.prog 63 #[Value.agg #[Value.int IntKind.i64 0, Value.bool false, Value.slice none 0 0]] _ _); refine (zLimbs0 _).mono ?_; rintro e w6 ⟨rfl, hb6⟩; have R6 := R5.drew.next hb6; obtain ⟨⟨q0, q1, q2⟩, _⟩ := blk3 R6.B) | (go_at_call 63; (with_reducible show Calls Tryd.prog 63 #[Value.agg #[Value.int IntKind.i64 vb, Value.bool gb, Value.slice pb tb cb]] _ _); refine (RB.lm _ R6.below).mono ?_; rintro e w7 ⟨b, cb', rfl, hb, lb, hb7⟩; have R7 := R6.next hb7) | (go_at_call 68; refine (cmpD_ne 0 m none (some ⟨b, 0, none⟩) 0 cb' w7 (by omega)).mono ?_; rintro e w8 ⟨rfl, hq⟩; (have hb8 : Below w7.heap.size w7 w8 := by rw [hq]; exact Below.refl _ _); clear hq; have R8 := R7.next hb8; obtain ⟨⟨p0, p1, p2⟩, _⟩ := blk3 R8.A; rw [if_pos m0']))
      all_goals go_wp2_with fail
      all_goals go_meet
      all_goals exact ⟨rfl, R8⟩
    case rest =>
      clear n0 n1 n2 o0 o1 o2 R5
      obtain ⟨rfl, R8⟩ := hcut
      obtain ⟨⟨p0, p1, p2⟩, _⟩ := blk3 R8.A
      go_wp2_with (go_at_call 65; (with_reducible show Calls Tryd.prog 65 #[Value.agg #[Value.int IntKind.i64 0, Value.bool false, Value.slice none 0 0]] _ _); refine (zNeg 0 _).mono ?_; rintro e w9 ⟨rfl, hb9⟩; have R9 := R8.next hb9)
      go_ret
      exact ⟨rfl, R9.below⟩

end Go.Proofs.YtoloenkcfpfgcaaDoor
