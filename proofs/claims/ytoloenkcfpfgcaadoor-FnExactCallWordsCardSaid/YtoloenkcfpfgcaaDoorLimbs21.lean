/- Contract of the model's l1Add where one number is 0 and the other one holds limbs. -/
import Derived.Test.YtoloenkcfpfgcaaDoorLimbs18
namespace Go.Proofs.YtoloenkcfpfgcaaDoor
open Go.ChangeShapes Go.WideShapes Go.ChangeAt Go.RowKit
/-- A row as it stands in memory. -/
structure One (w : World) (a n : Nat) (x : Nat → Nat) : Prop where
  LX : Limbs w a n x
  la : a < w.heap.size
theorem One.next {w w' : World} {a n : Nat} {x : Nat → Nat} (h : One w a n x) (hb : Below w.heap.size w w') : One w' a n x :=
  ⟨fun j hj => (hb.cell (p := ⟨a, j, none⟩) h.la).trans (h.LX j hj), by have := hb.size; have := h.la; omega⟩
theorem One.drew {w : World} {a n : Nat} {x : Nat → Nat} (h : One w a n x) : One w.drew a n x := ⟨h.LX, h.la⟩

set_option maxRecDepth 100000 in
set_option maxHeartbeats 4000000 in
theorem rAdd_zeroLp (m : Nat) (y : Nat → Nat) (vb : Int) (gb : Bool) (pb : Option Addr) (tb cb : Nat) (w : World) (RB : Rep w (.agg #[.int .i64 vb, .bool gb, .slice pb tb cb]) false false m y) (m0' : 0 < m) :
    Calls Tryd.prog 41 #[.agg #[.int .i64 0, .bool false, .slice none 0 0], .agg #[.int .i64 vb, .bool gb, .slice pb tb cb]] w fun r w' => ∃ M o f, M ≤ m + 1 ∧ r = .returned (madeZ false o M (trim f M) f) ∧ Own w' w.heap.size o M f ∧ (∀ i, f i < 1000000000) ∧ val f M = val y m ∧ Below w.heap.size w w' := by
  have hm := RB.len
  have hy := RB.lt
  have m0x : 0 < m := m0'
  have m0y : ¬ m < 0 := by omega
  go_enter Tryd.func41, Tryd.ntmps41
  go_wp2_with (first | (go_at_call 61; (with_reducible show Calls Tryd.prog 61 #[Value.agg #[Value.int IntKind.i64 0, Value.bool false, Value.slice none 0 0]] _ _); refine (sm0 _).mono ?_; rintro e w1 ⟨rfl, hb1⟩; have R1 := Args.start.next hb1; obtain ⟨⟨u0, u1, u2⟩, _⟩ := blk3 R1.A; obtain ⟨⟨v0, v1, v2⟩, _⟩ := blk3 R1.B) | (go_at_call 61; (with_reducible show Calls Tryd.prog 61 #[Value.agg #[Value.int IntKind.i64 vb, Value.bool gb, Value.slice pb tb cb]] _ _); refine (RB.sm _ R1.below).mono ?_; rintro e w1b ⟨rfl, hb1b⟩; have R1b := R1.next hb1b; obtain ⟨⟨y0, y1, y2⟩, _⟩ := blk3 R1b.A) | (go_at_call 63; (with_reducible show Calls Tryd.prog 63 #[Value.agg #[Value.int IntKind.i64 0, Value.bool false, Value.slice none 0 0]] _ _); refine (zLimbs0 _).mono ?_; rintro e w2 ⟨rfl, hb2⟩; have R2 := R1b.next hb2; obtain ⟨⟨x0, x1, x2⟩, _⟩ := blk3 R2.B) | (go_at_call 63; (with_reducible show Calls Tryd.prog 63 #[Value.agg #[Value.int IntKind.i64 vb, Value.bool gb, Value.slice pb tb cb]] _ _); refine (RB.lm _ R2.below).mono ?_; rintro e w3 ⟨b, cb', rfl, hb, lb, hb3⟩; have R3 := R2.next hb3; obtain ⟨⟨i0, i1, i2⟩, _⟩ := blk3 R3.A; obtain ⟨⟨j0, j1, j2⟩, _⟩ := blk3 R3.B; have T3 : One w3 b m y := ⟨hb, lb⟩))
  clear hb
  go_region_with (first | (go_at_call 65; (with_reducible show Calls Tryd.prog 65 #[Value.agg #[Value.int IntKind.i64 0, Value.bool false, Value.slice none 0 0]] _ _); refine (zNeg 0 _).mono ?_; rintro e w4 ⟨rfl, hb4⟩; have R4 := R3.drew.next hb4; have T4 := T3.drew.next hb4; obtain ⟨⟨m0, m1, m2⟩, _⟩ := blk3 R4.B) | (go_at_call 65; (with_reducible show Calls Tryd.prog 65 #[Value.agg #[Value.int IntKind.i64 vb, Value.bool gb, Value.slice pb tb cb]] _ _); refine (RB.ng _ R4.below).mono ?_; rintro e w5 ⟨rfl, hb5⟩; have R5 := R4.next hb5; have T5 := T4.next hb5; obtain ⟨⟨n0, n1, n2⟩, _⟩ := blk3 R5.A; obtain ⟨⟨o0, o1, o2⟩, _⟩ := blk3 R5.B))
  all_goals
    go_wp2_with (first | (go_at_call 65; (with_reducible show Calls Tryd.prog 65 #[Value.agg #[Value.int IntKind.i64 0, Value.bool false, Value.slice none 0 0]] _ _); refine (zNeg 0 _).mono ?_; rintro e w6 ⟨rfl, hb6⟩; have R6 := R5.next hb6; have T6 := T5.next hb6) | (go_at_call 67; refine (addD_nl m b cb' none 0 y w6 m0' (by omega) T6.LX T6.la hy).mono ?_; rintro e w7 ⟨rfl, O7, hb7⟩; have R7 := R6.next hb7) | (go_at_call 64; refine (make_any _ (m + 1) w6.heap.size (m + 1) (pad m y) _ (by omega) (Nat.le_refl _) O7.cell O7.hi (pad_lt m y hy)).mono ?_; rintro e w8 ⟨he, hb8⟩; obtain ⟨V, NG, S, L, CC, hM⟩ := madeZ_parts false w6.heap.size (m + 1) (trim (pad m y) (m + 1)) (pad m y); have HM : Hid (_ = _) := hM; (have he2 := he.trans (congrArg Ending.returned hM)); clear he hM; subst he2; have R8 := R7.next hb8; have O8 := O7.next hb8; obtain ⟨⟨z0, z1, z2⟩, z3, z4, z5⟩ := blk3 R8.Z))
    have big := R3.big
    have O9 := ((O8.other (w.heap.size + 1 + 1) 0 (.int .i64 V) (by have := R6.big; omega)).other (w.heap.size + 1 + 1) 1 (.bool NG) (by have := R6.big; omega)).other (w.heap.size + 1 + 1) 2 (.slice S L CC) (by have := R6.big; omega)
    have B9 := ((R8.below.setCell (p := ⟨w.heap.size + 1 + 1, 0, none⟩) (by simp; omega) (.int .i64 V)).setCell (p := ⟨w.heap.size + 1 + 1, 1, none⟩) (by simp; omega) (.bool NG)).setCell (p := ⟨w.heap.size + 1 + 1, 2, none⟩) (by simp; omega) (.slice S L CC)
    exact bodyPost_ret (v := .agg #[.int .i64 V, .bool NG, .slice S L CC]) (by simp [results, Tryd.results41, go_sem, z0, z1, z2]) rfl ⟨(m + 1), w6.heap.size, (pad m y), by omega, by rw [HM.out], ⟨O9.cell, O9.free, by have := R6.big; omega, O9.hi⟩, (pad_lt m y hy), val_pad m y (m + 1) (by omega), B9⟩

set_option maxRecDepth 100000 in
set_option maxHeartbeats 4000000 in
theorem rAdd_zeroLn (m : Nat) (y : Nat → Nat) (vb : Int) (gb : Bool) (pb : Option Addr) (tb cb : Nat) (w : World) (RB : Rep w (.agg #[.int .i64 vb, .bool gb, .slice pb tb cb]) false true m y) (m0' : 0 < m) :
    Calls Tryd.prog 41 #[.agg #[.int .i64 0, .bool false, .slice none 0 0], .agg #[.int .i64 vb, .bool gb, .slice pb tb cb]] w fun r w' => ∃ M o f, M ≤ m + 1 ∧ r = .returned (madeZ true o M (trim f M) f) ∧ Own w' w.heap.size o M f ∧ (∀ i, f i < 1000000000) ∧ val f M = val y m ∧ Below w.heap.size w w' := by
  have hm := RB.len
  have hy := RB.lt
  have m0x : 0 < m := m0'
  have m0y : ¬ m < 0 := by omega
  go_enter Tryd.func41, Tryd.ntmps41
  go_wp2_with (first | (go_at_call 61; (with_reducible show Calls Tryd.prog 61 #[Value.agg #[Value.int IntKind.i64 0, Value.bool false, Value.slice none 0 0]] _ _); refine (sm0 _).mono ?_; rintro e w1 ⟨rfl, hb1⟩; have R1 := Args.start.next hb1; obtain ⟨⟨u0, u1, u2⟩, _⟩ := blk3 R1.A; obtain ⟨⟨v0, v1, v2⟩, _⟩ := blk3 R1.B) | (go_at_call 61; (with_reducible show Calls Tryd.prog 61 #[Value.agg #[Value.int IntKind.i64 vb, Value.bool gb, Value.slice pb tb cb]] _ _); refine (RB.sm _ R1.below).mono ?_; rintro e w1b ⟨rfl, hb1b⟩; have R1b := R1.next hb1b; obtain ⟨⟨y0, y1, y2⟩, _⟩ := blk3 R1b.A) | (go_at_call 63; (with_reducible show Calls Tryd.prog 63 #[Value.agg #[Value.int IntKind.i64 0, Value.bool false, Value.slice none 0 0]] _ _); refine (zLimbs0 _).mono ?_; rintro e w2 ⟨rfl, hb2⟩; have R2 := R1b.next hb2; obtain ⟨⟨x0, x1, x2⟩, _⟩ := blk3 R2.B) | (go_at_call 63; (with_reducible show Calls Tryd.prog 63 #[Value.agg #[Value.int IntKind.i64 vb, Value.bool gb, Value.slice pb tb cb]] _ _); refine (RB.lm _ R2.below).mono ?_; rintro e w3 ⟨b, cb', rfl, hb, lb, hb3⟩; have R3 := R2.next hb3; obtain ⟨⟨i0, i1, i2⟩, _⟩ := blk3 R3.A; obtain ⟨⟨j0, j1, j2⟩, _⟩ := blk3 R3.B; have T3 : One w3 b m y := ⟨hb, lb⟩))
  clear hb
  go_region_with (first | (go_at_call 65; (with_reducible show Calls Tryd.prog 65 #[Value.agg #[Value.int IntKind.i64 0, Value.bool false, Value.slice none 0 0]] _ _); refine (zNeg 0 _).mono ?_; rintro e w4 ⟨rfl, hb4⟩; have R4 := R3.drew.next hb4; have T4 := T3.drew.next hb4; obtain ⟨⟨m0, m1, m2⟩, _⟩ := blk3 R4.B) | (go_at_call 65; (with_reducible show Calls Tryd.prog 65 #[Value.agg #[Value.int IntKind.i64 vb, Value.bool gb, Value.slice pb tb cb]] _ _); refine (RB.ng _ R4.below).mono ?_; rintro e w5 ⟨rfl, hb5⟩; have R5 := R4.next hb5; have T5 := T4.next hb5; obtain ⟨⟨n0, n1, n2⟩, _⟩ := blk3 R5.A; obtain ⟨⟨o0, o1, o2⟩, _⟩ := blk3 R5.B))
  all_goals
    go_wp2_with (first | (go_at_call 68; refine (cmpD_ne 0 m none (some ⟨b, 0, none⟩) 0 cb' w5 (by omega)).mono ?_; rintro e w5' ⟨rfl, hw5⟩; subst w5'; rw [if_pos m0x]) | (go_at_call 65; (with_reducible show Calls Tryd.prog 65 #[Value.agg #[Value.int IntKind.i64 vb, Value.bool gb, Value.slice pb tb cb]] _ _); refine (RB.ng _ R5.below).mono ?_; rintro e w6 ⟨rfl, hb6⟩; have R6 := R5.next hb6; have T6 := T5.next hb6) | (go_at_call 69; refine (subD_nr m b cb' none 0 y w6 (by omega) T6.LX T6.la hy).mono ?_; rintro e w7 ⟨rfl, O7, hb7⟩; have R7 := R6.next hb7) | (go_at_call 64; refine (make_any _ m w6.heap.size m y _ (by omega) (Nat.le_refl _) O7.cell O7.hi hy).mono ?_; rintro e w8 ⟨he, hb8⟩; obtain ⟨V, NG, S, L, CC, hM⟩ := madeZ_parts true w6.heap.size m (trim y m) y; have HM : Hid (_ = _) := hM; (have he2 := he.trans (congrArg Ending.returned hM)); clear he hM; subst he2; have R8 := R7.next hb8; have O8 := O7.next hb8; obtain ⟨⟨z0, z1, z2⟩, z3, z4, z5⟩ := blk3 R8.Z))
    have big := R3.big
    have O9 := ((O8.other (w.heap.size + 1 + 1) 0 (.int .i64 V) (by have := R6.big; omega)).other (w.heap.size + 1 + 1) 1 (.bool NG) (by have := R6.big; omega)).other (w.heap.size + 1 + 1) 2 (.slice S L CC) (by have := R6.big; omega)
    have B9 := ((R8.below.setCell (p := ⟨w.heap.size + 1 + 1, 0, none⟩) (by simp; omega) (.int .i64 V)).setCell (p := ⟨w.heap.size + 1 + 1, 1, none⟩) (by simp; omega) (.bool NG)).setCell (p := ⟨w.heap.size + 1 + 1, 2, none⟩) (by simp; omega) (.slice S L CC)
    exact bodyPost_ret (v := .agg #[.int .i64 V, .bool NG, .slice S L CC]) (by simp [results, Tryd.results41, go_sem, z0, z1, z2]) rfl ⟨m, w6.heap.size, y, by omega, by rw [HM.out], ⟨O9.cell, O9.free, by have := R6.big; omega, O9.hi⟩, hy, rfl, B9⟩

set_option maxRecDepth 100000 in
set_option maxHeartbeats 4000000 in
theorem rAdd_zeroRp (m : Nat) (y : Nat → Nat) (vb : Int) (gb : Bool) (pb : Option Addr) (tb cb : Nat) (w : World) (RB : Rep w (.agg #[.int .i64 vb, .bool gb, .slice pb tb cb]) false false m y) (m0' : 0 < m) :
    Calls Tryd.prog 41 #[.agg #[.int .i64 vb, .bool gb, .slice pb tb cb], .agg #[.int .i64 0, .bool false, .slice none 0 0]] w fun r w' => ∃ M o f, M ≤ m + 1 ∧ r = .returned (madeZ false o M (trim f M) f) ∧ Own w' w.heap.size o M f ∧ (∀ i, f i < 1000000000) ∧ val f M = val y m ∧ Below w.heap.size w w' := by
  have hm := RB.len
  have hy := RB.lt
  have m0x : 0 < m := m0'
  have m0y : ¬ m < 0 := by omega
  go_enter Tryd.func41, Tryd.ntmps41
  go_wp2_with (first | (go_at_call 61; (with_reducible show Calls Tryd.prog 61 #[Value.agg #[Value.int IntKind.i64 vb, Value.bool gb, Value.slice pb tb cb]] _ _); refine (RB.sm _ Args.start.below).mono ?_; rintro e w1 ⟨rfl, hb1⟩; have R1 := Args.start.next hb1; obtain ⟨⟨u0, u1, u2⟩, _⟩ := blk3 R1.A; obtain ⟨⟨v0, v1, v2⟩, _⟩ := blk3 R1.B) | (go_at_call 63; (with_reducible show Calls Tryd.prog 63 #[Value.agg #[Value.int IntKind.i64 vb, Value.bool gb, Value.slice pb tb cb]] _ _); refine (RB.lm _ R1.below).mono ?_; rintro e w2 ⟨b, cb', rfl, hb, lb, hb2⟩; have R2 := R1.next hb2; obtain ⟨⟨x0, x1, x2⟩, _⟩ := blk3 R2.B; have T2 : One w2 b m y := ⟨hb, lb⟩) | (go_at_call 63; (with_reducible show Calls Tryd.prog 63 #[Value.agg #[Value.int IntKind.i64 0, Value.bool false, Value.slice none 0 0]] _ _); refine (zLimbs0 _).mono ?_; rintro e w3 ⟨rfl, hb3⟩; have R3 := R2.next hb3; obtain ⟨⟨i0, i1, i2⟩, _⟩ := blk3 R3.A; obtain ⟨⟨j0, j1, j2⟩, _⟩ := blk3 R3.B; have T3 := T2.next hb3))
  clear hb
  go_region_with (first | (go_at_call 65; (with_reducible show Calls Tryd.prog 65 #[Value.agg #[Value.int IntKind.i64 vb, Value.bool gb, Value.slice pb tb cb]] _ _); refine (RB.ng _ R3.drew.below).mono ?_; rintro e w4 ⟨rfl, hb4⟩; have R4 := R3.drew.next hb4; have T4 := T3.drew.next hb4; obtain ⟨⟨m0, m1, m2⟩, _⟩ := blk3 R4.B) | (go_at_call 65; (with_reducible show Calls Tryd.prog 65 #[Value.agg #[Value.int IntKind.i64 0, Value.bool false, Value.slice none 0 0]] _ _); refine (zNeg 0 _).mono ?_; rintro e w5 ⟨rfl, hb5⟩; have R5 := R4.next hb5; have T5 := T4.next hb5; obtain ⟨⟨n0, n1, n2⟩, _⟩ := blk3 R5.A; obtain ⟨⟨o0, o1, o2⟩, _⟩ := blk3 R5.B))
  all_goals
    go_wp2_with (first | (go_at_call 65; (with_reducible show Calls Tryd.prog 65 #[Value.agg #[Value.int IntKind.i64 vb, Value.bool gb, Value.slice pb tb cb]] _ _); refine (RB.ng _ R5.below).mono ?_; rintro e w6 ⟨rfl, hb6⟩; have R6 := R5.next hb6; have T6 := T5.next hb6) | (go_at_call 67; refine (addD_nr m b cb' none 0 y w6 m0' (by omega) T6.LX T6.la hy).mono ?_; rintro e w7 ⟨rfl, O7, hb7⟩; have R7 := R6.next hb7) | (go_at_call 64; refine (make_any _ (m + 1) w6.heap.size (m + 1) (pad m y) _ (by omega) (Nat.le_refl _) O7.cell O7.hi (pad_lt m y hy)).mono ?_; rintro e w8 ⟨he, hb8⟩; obtain ⟨V, NG, S, L, CC, hM⟩ := madeZ_parts false w6.heap.size (m + 1) (trim (pad m y) (m + 1)) (pad m y); have HM : Hid (_ = _) := hM; (have he2 := he.trans (congrArg Ending.returned hM)); clear he hM; subst he2; have R8 := R7.next hb8; have O8 := O7.next hb8; obtain ⟨⟨z0, z1, z2⟩, z3, z4, z5⟩ := blk3 R8.Z))
    have big := R3.big
    have O9 := ((O8.other (w.heap.size + 1 + 1) 0 (.int .i64 V) (by have := R6.big; omega)).other (w.heap.size + 1 + 1) 1 (.bool NG) (by have := R6.big; omega)).other (w.heap.size + 1 + 1) 2 (.slice S L CC) (by have := R6.big; omega)
    have B9 := ((R8.below.setCell (p := ⟨w.heap.size + 1 + 1, 0, none⟩) (by simp; omega) (.int .i64 V)).setCell (p := ⟨w.heap.size + 1 + 1, 1, none⟩) (by simp; omega) (.bool NG)).setCell (p := ⟨w.heap.size + 1 + 1, 2, none⟩) (by simp; omega) (.slice S L CC)
    exact bodyPost_ret (v := .agg #[.int .i64 V, .bool NG, .slice S L CC]) (by simp [results, Tryd.results41, go_sem, z0, z1, z2]) rfl ⟨(m + 1), w6.heap.size, (pad m y), by omega, by rw [HM.out], ⟨O9.cell, O9.free, by have := R6.big; omega, O9.hi⟩, (pad_lt m y hy), val_pad m y (m + 1) (by omega), B9⟩

set_option maxRecDepth 100000 in
set_option maxHeartbeats 4000000 in
theorem rAdd_zeroRn (m : Nat) (y : Nat → Nat) (vb : Int) (gb : Bool) (pb : Option Addr) (tb cb : Nat) (w : World) (RB : Rep w (.agg #[.int .i64 vb, .bool gb, .slice pb tb cb]) false true m y) (m0' : 0 < m) :
    Calls Tryd.prog 41 #[.agg #[.int .i64 vb, .bool gb, .slice pb tb cb], .agg #[.int .i64 0, .bool false, .slice none 0 0]] w fun r w' => ∃ M o f, M ≤ m + 1 ∧ r = .returned (madeZ true o M (trim f M) f) ∧ Own w' w.heap.size o M f ∧ (∀ i, f i < 1000000000) ∧ val f M = val y m ∧ Below w.heap.size w w' := by
  have hm := RB.len
  have hy := RB.lt
  have m0x : 0 < m := m0'
  have m0y : ¬ m < 0 := by omega
  go_enter Tryd.func41, Tryd.ntmps41
  go_wp2_with (first | (go_at_call 61; (with_reducible show Calls Tryd.prog 61 #[Value.agg #[Value.int IntKind.i64 vb, Value.bool gb, Value.slice pb tb cb]] _ _); refine (RB.sm _ Args.start.below).mono ?_; rintro e w1 ⟨rfl, hb1⟩; have R1 := Args.start.next hb1; obtain ⟨⟨u0, u1, u2⟩, _⟩ := blk3 R1.A; obtain ⟨⟨v0, v1, v2⟩, _⟩ := blk3 R1.B) | (go_at_call 63; (with_reducible show Calls Tryd.prog 63 #[Value.agg #[Value.int IntKind.i64 vb, Value.bool gb, Value.slice pb tb cb]] _ _); refine (RB.lm _ R1.below).mono ?_; rintro e w2 ⟨b, cb', rfl, hb, lb, hb2⟩; have R2 := R1.next hb2; obtain ⟨⟨x0, x1, x2⟩, _⟩ := blk3 R2.B; have T2 : One w2 b m y := ⟨hb, lb⟩) | (go_at_call 63; (with_reducible show Calls Tryd.prog 63 #[Value.agg #[Value.int IntKind.i64 0, Value.bool false, Value.slice none 0 0]] _ _); refine (zLimbs0 _).mono ?_; rintro e w3 ⟨rfl, hb3⟩; have R3 := R2.next hb3; obtain ⟨⟨i0, i1, i2⟩, _⟩ := blk3 R3.A; obtain ⟨⟨j0, j1, j2⟩, _⟩ := blk3 R3.B; have T3 := T2.next hb3))
  clear hb
  go_region_with (first | (go_at_call 65; (with_reducible show Calls Tryd.prog 65 #[Value.agg #[Value.int IntKind.i64 vb, Value.bool gb, Value.slice pb tb cb]] _ _); refine (RB.ng _ R3.drew.below).mono ?_; rintro e w4 ⟨rfl, hb4⟩; have R4 := R3.drew.next hb4; have T4 := T3.drew.next hb4; obtain ⟨⟨m0, m1, m2⟩, _⟩ := blk3 R4.B) | (go_at_call 65; (with_reducible show Calls Tryd.prog 65 #[Value.agg #[Value.int IntKind.i64 0, Value.bool false, Value.slice none 0 0]] _ _); refine (zNeg 0 _).mono ?_; rintro e w5 ⟨rfl, hb5⟩; have R5 := R4.next hb5; have T5 := T4.next hb5; obtain ⟨⟨n0, n1, n2⟩, _⟩ := blk3 R5.A; obtain ⟨⟨o0, o1, o2⟩, _⟩ := blk3 R5.B))
  all_goals
    go_wp2_with (first | (go_at_call 68; refine (cmpD_ne m 0 (some ⟨b, 0, none⟩) none cb' 0 w5 (by omega)).mono ?_; rintro e w5' ⟨rfl, hw5⟩; subst w5'; rw [if_neg m0y]) | (go_at_call 65; (with_reducible show Calls Tryd.prog 65 #[Value.agg #[Value.int IntKind.i64 vb, Value.bool gb, Value.slice pb tb cb]] _ _); refine (RB.ng _ R5.below).mono ?_; rintro e w6 ⟨rfl, hb6⟩; have R6 := R5.next hb6; have T6 := T5.next hb6) | (go_at_call 69; refine (subD_nr m b cb' none 0 y w6 (by omega) T6.LX T6.la hy).mono ?_; rintro e w7 ⟨rfl, O7, hb7⟩; have R7 := R6.next hb7) | (go_at_call 64; refine (make_any _ m w6.heap.size m y _ (by omega) (Nat.le_refl _) O7.cell O7.hi hy).mono ?_; rintro e w8 ⟨he, hb8⟩; obtain ⟨V, NG, S, L, CC, hM⟩ := madeZ_parts true w6.heap.size m (trim y m) y; have HM : Hid (_ = _) := hM; (have he2 := he.trans (congrArg Ending.returned hM)); clear he hM; subst he2; have R8 := R7.next hb8; have O8 := O7.next hb8; obtain ⟨⟨z0, z1, z2⟩, z3, z4, z5⟩ := blk3 R8.Z))
    have big := R3.big
    have O9 := ((O8.other (w.heap.size + 1 + 1) 0 (.int .i64 V) (by have := R6.big; omega)).other (w.heap.size + 1 + 1) 1 (.bool NG) (by have := R6.big; omega)).other (w.heap.size + 1 + 1) 2 (.slice S L CC) (by have := R6.big; omega)
    have B9 := ((R8.below.setCell (p := ⟨w.heap.size + 1 + 1, 0, none⟩) (by simp; omega) (.int .i64 V)).setCell (p := ⟨w.heap.size + 1 + 1, 1, none⟩) (by simp; omega) (.bool NG)).setCell (p := ⟨w.heap.size + 1 + 1, 2, none⟩) (by simp; omega) (.slice S L CC)
    exact bodyPost_ret (v := .agg #[.int .i64 V, .bool NG, .slice S L CC]) (by simp [results, Tryd.results41, go_sem, z0, z1, z2]) rfl ⟨m, w6.heap.size, y, by omega, by rw [HM.out], ⟨O9.cell, O9.free, by have := R6.big; omega, O9.hi⟩, hy, rfl, B9⟩

end Go.Proofs.YtoloenkcfpfgcaaDoor
