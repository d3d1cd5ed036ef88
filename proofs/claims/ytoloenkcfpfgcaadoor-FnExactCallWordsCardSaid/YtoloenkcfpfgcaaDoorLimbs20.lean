/- Contract of the model's l1Add over two numbers that are not 0 and not both small, by what they stand for. -/
import Derived.Test.YtoloenkcfpfgcaaDoorLimbs18
namespace Go.Proofs.YtoloenkcfpfgcaaDoor
open Go.ChangeShapes Go.WideShapes Go.ChangeAt Go.RowKit

set_option maxRecDepth 100000 in
set_option maxHeartbeats 4000000 in
theorem rAdd_ltG (sb : Bool) (na nb : Bool) (n m : Nat) (x y : Nat → Nat) (va vb : Int) (ga gb : Bool) (pa pb : Option Addr) (ta ca tb cb : Nat) (w : World)
    (RA : Rep w (.agg #[.int .i64 va, .bool ga, .slice pa ta ca]) false na n x) (RB : Rep w (.agg #[.int .i64 vb, .bool gb, .slice pb tb cb]) sb nb m y) (tx : x (n - 1) ≠ 0) (ty : y (m - 1) ≠ 0) (hE : (na == nb) = false) (hv : val x n < val y m) :
    Calls Tryd.prog 41 #[.agg #[.int .i64 va, .bool ga, .slice pa ta ca], .agg #[.int .i64 vb, .bool gb, .slice pb tb cb]] w fun r w' => ∃ o f, r = .returned (madeZ nb o m (trim f m) f) ∧ Own w' w.heap.size o m f ∧ (∀ i, f i < 1000000000) ∧ val f m + val x n = val y m ∧ Below w.heap.size w w' := by
  have hn := RA.len
  have hm := RB.len
  have hx := RA.lt
  have hy := RB.lt
  have hmn : n ≤ m := by
    rcases Nat.lt_or_ge m n with h | h
    · have := len_cmp m n y x hy h tx; omega
    · exact h
  have HC : Hid (cmpZ (val x n) (val y m) = -1) := by show cmpZ _ _ = _; unfold cmpZ; rw [if_pos (by omega)]
  have HE : Hid ((na == nb) = false) := hE
  go_enter Tryd.func41, Tryd.ntmps41
  go_wp2_with (first | (go_at_call 61; (with_reducible show Calls Tryd.prog 61 #[Value.agg #[Value.int IntKind.i64 va, Value.bool ga, Value.slice pa ta ca]] _ _); refine (RA.sm _ Args.start.below).mono ?_; rintro e w1 ⟨rfl, hb1⟩; have R1 := Args.start.next hb1; obtain ⟨⟨u0, u1, u2⟩, _⟩ := blk3 R1.A; obtain ⟨⟨v0, v1, v2⟩, _⟩ := blk3 R1.B) | (go_at_call 63; (with_reducible show Calls Tryd.prog 63 #[Value.agg #[Value.int IntKind.i64 va, Value.bool ga, Value.slice pa ta ca]] _ _); refine (RA.lm _ R1.below).mono ?_; rintro e w2 ⟨a, ca', rfl, ha, la, hb2⟩; have R2 := R1.next hb2; obtain ⟨⟨x0, x1, x2⟩, _⟩ := blk3 R2.B) | (go_at_call 63; (with_reducible show Calls Tryd.prog 63 #[Value.agg #[Value.int IntKind.i64 vb, Value.bool gb, Value.slice pb tb cb]] _ _); refine (RB.lm _ R2.below).mono ?_; rintro e w3 ⟨b, cb', rfl, hb, lb, hb3⟩; have R3 := R2.next hb3; obtain ⟨⟨i0, i1, i2⟩, _⟩ := blk3 R3.A; obtain ⟨⟨j0, j1, j2⟩, _⟩ := blk3 R3.B))
  have T3 : Two w3 a n x b m y := ⟨fun j hj => (hb3.cell (p := ⟨a, j, none⟩) la).trans (ha j hj), by have := hb3.size; omega, hb, lb⟩
  clear ha hb
  go_region_with (first | (go_at_call 65; (with_reducible show Calls Tryd.prog 65 #[Value.agg #[Value.int IntKind.i64 va, Value.bool ga, Value.slice pa ta ca]] _ _); refine (RA.ng _ R3.drew.below).mono ?_; rintro e w4 ⟨rfl, hb4⟩; have R4 := R3.drew.next hb4; have T4 := T3.drew.next hb4; obtain ⟨⟨m0, m1, m2⟩, _⟩ := blk3 R4.B) | (go_at_call 65; (with_reducible show Calls Tryd.prog 65 #[Value.agg #[Value.int IntKind.i64 vb, Value.bool gb, Value.slice pb tb cb]] _ _); refine (RB.ng _ R4.below).mono ?_; rintro e w5 ⟨rfl, hb5⟩; have R5 := R4.next hb5; have T5 := T4.next hb5; obtain ⟨⟨n0, n1, n2⟩, _⟩ := blk3 R5.A; obtain ⟨⟨o0, o1, o2⟩, _⟩ := blk3 R5.B))
  all_goals
    go_wp2_with (first | (go_at_call 68; refine (cmpD_val n m a b ca' cb' x y w5 (by omega) T5.LX T5.LY hx hy tx ty).mono ?_; rintro e w5' ⟨rfl, q, hq⟩; (have hb5' : Below w5.heap.size w5 w5' := by rw [hq]; exact below_drewN (Below.refl _ _) q); clear hq; have R5' := R5.next hb5'; have T5' := T5.next hb5'; obtain ⟨⟨k0, k1, k2⟩, _⟩ := blk3 R5'.A; obtain ⟨⟨l0, l1, l2⟩, _⟩ := blk3 R5'.B; rw [HC.out]) | (go_at_call 65; (with_reducible show Calls Tryd.prog 65 #[Value.agg #[Value.int IntKind.i64 vb, Value.bool gb, Value.slice pb tb cb]] w5' _); refine (RB.ng _ R5'.below).mono ?_; rintro e w6 ⟨rfl, hb6⟩; have R6 := R5'.next hb6; have T6 := T5'.next hb6) | (go_at_call 69; refine (subD_any m n b a cb' ca' y x w6 hmn (by omega) T6.LY T6.LX T6.lb T6.la hy hx (pad n x) rfl).mono ?_; rintro e w7 ⟨rfl, O7, hb7⟩; have R7 := R6.next hb7) | (go_at_call 64; refine (make_any _ m w6.heap.size m (subDig y (pad n x)) _ (by omega) (Nat.le_refl _) O7.cell O7.hi (subDig_lt y (pad n x) hy (pad_lt n x hx))).mono ?_; rintro e w8 ⟨he, hb8⟩; obtain ⟨V, NG, S, L, CC, hM⟩ := madeZ_parts nb w6.heap.size m (trim (subDig y (pad n x)) m) (subDig y (pad n x)); have HM : Hid (_ = _) := hM; (have he2 := he.trans (congrArg Ending.returned hM)); clear he hM; subst he2; have R8 := R7.next hb8; have O8 := O7.next hb8; obtain ⟨⟨z0, z1, z2⟩, z3, z4, z5⟩ := blk3 R8.Z))
    have big := R3.big
    have z43 := hb4.size
    have z54 := hb5.size
    have O9 := ((O8.other (w.heap.size + 1 + 1) 0 (.int .i64 V) (by have := R6.big; omega)).other (w.heap.size + 1 + 1) 1 (.bool NG) (by have := R6.big; omega)).other (w.heap.size + 1 + 1) 2 (.slice S L CC) (by have := R6.big; omega)
    have B9 := ((R8.below.setCell (p := ⟨w.heap.size + 1 + 1, 0, none⟩) (by simp; omega) (.int .i64 V)).setCell (p := ⟨w.heap.size + 1 + 1, 1, none⟩) (by simp; omega) (.bool NG)).setCell (p := ⟨w.heap.size + 1 + 1, 2, none⟩) (by simp; omega) (.slice S L CC)
    exact bodyPost_ret (v := .agg #[.int .i64 V, .bool NG, .slice S L CC]) (by simp [results, Tryd.results41, go_sem, z0, z1, z2]) rfl ⟨w6.heap.size, (subDig y (pad n x)), by rw [HM.out], ⟨O9.cell, O9.free, by have := R6.big; omega, O9.hi⟩, (subDig_lt y (pad n x) hy (pad_lt n x hx)), sub_val m n y x hy hx hmn (Nat.le_of_lt hv), B9⟩

set_option maxRecDepth 100000 in
set_option maxHeartbeats 4000000 in
theorem rAdd_ltS (na nb : Bool) (n m : Nat) (x y : Nat → Nat) (va vb : Int) (ga gb : Bool) (pa pb : Option Addr) (ta ca tb cb : Nat) (w : World)
    (RA : Rep w (.agg #[.int .i64 va, .bool ga, .slice pa ta ca]) true na n x) (RB : Rep w (.agg #[.int .i64 vb, .bool gb, .slice pb tb cb]) false nb m y) (tx : x (n - 1) ≠ 0) (ty : y (m - 1) ≠ 0) (hE : (na == nb) = false) (hv : val x n < val y m) :
    Calls Tryd.prog 41 #[.agg #[.int .i64 va, .bool ga, .slice pa ta ca], .agg #[.int .i64 vb, .bool gb, .slice pb tb cb]] w fun r w' => ∃ o f, r = .returned (madeZ nb o m (trim f m) f) ∧ Own w' w.heap.size o m f ∧ (∀ i, f i < 1000000000) ∧ val f m + val x n = val y m ∧ Below w.heap.size w w' := by
  have hn := RA.len
  have hm := RB.len
  have hx := RA.lt
  have hy := RB.lt
  have hmn : n ≤ m := by
    rcases Nat.lt_or_ge m n with h | h
    · have := len_cmp m n y x hy h tx; omega
    · exact h
  have HC : Hid (cmpZ (val x n) (val y m) = -1) := by show cmpZ _ _ = _; unfold cmpZ; rw [if_pos (by omega)]
  have HE : Hid ((na == nb) = false) := hE
  go_enter Tryd.func41, Tryd.ntmps41
  go_wp2_with (first | (go_at_call 61; (with_reducible show Calls Tryd.prog 61 #[Value.agg #[Value.int IntKind.i64 va, Value.bool ga, Value.slice pa ta ca]] _ _); refine (RA.sm _ Args.start.below).mono ?_; rintro e w1 ⟨rfl, hb1⟩; have R1 := Args.start.next hb1; obtain ⟨⟨u0, u1, u2⟩, _⟩ := blk3 R1.A; obtain ⟨⟨v0, v1, v2⟩, _⟩ := blk3 R1.B) | (go_at_call 61; (with_reducible show Calls Tryd.prog 61 #[Value.agg #[Value.int IntKind.i64 vb, Value.bool gb, Value.slice pb tb cb]] _ _); refine (RB.sm _ R1.below).mono ?_; rintro e w1b ⟨rfl, hb1b⟩; have R1b := R1.next hb1b; obtain ⟨⟨y0, y1, y2⟩, _⟩ := blk3 R1b.A) | (go_at_call 63; (with_reducible show Calls Tryd.prog 63 #[Value.agg #[Value.int IntKind.i64 va, Value.bool ga, Value.slice pa ta ca]] _ _); refine (RA.lm _ R1b.below).mono ?_; rintro e w2 ⟨a, ca', rfl, ha, la, hb2⟩; have R2 := R1b.next hb2; obtain ⟨⟨x0, x1, x2⟩, _⟩ := blk3 R2.B) | (go_at_call 63; (with_reducible show Calls Tryd.prog 63 #[Value.agg #[Value.int IntKind.i64 vb, Value.bool gb, Value.slice pb tb cb]] _ _); refine (RB.lm _ R2.below).mono ?_; rintro e w3 ⟨b, cb', rfl, hb, lb, hb3⟩; have R3 := R2.next hb3; obtain ⟨⟨i0, i1, i2⟩, _⟩ := blk3 R3.A; obtain ⟨⟨j0, j1, j2⟩, _⟩ := blk3 R3.B))
  have T3 : Two w3 a n x b m y := ⟨fun j hj => (hb3.cell (p := ⟨a, j, none⟩) la).trans (ha j hj), by have := hb3.size; omega, hb, lb⟩
  clear ha hb
  go_region_with (first | (go_at_call 65; (with_reducible show Calls Tryd.prog 65 #[Value.agg #[Value.int IntKind.i64 va, Value.bool ga, Value.slice pa ta ca]] _ _); refine (RA.ng _ R3.drew.below).mono ?_; rintro e w4 ⟨rfl, hb4⟩; have R4 := R3.drew.next hb4; have T4 := T3.drew.next hb4; obtain ⟨⟨m0, m1, m2⟩, _⟩ := blk3 R4.B) | (go_at_call 65; (with_reducible show Calls Tryd.prog 65 #[Value.agg #[Value.int IntKind.i64 vb, Value.bool gb, Value.slice pb tb cb]] _ _); refine (RB.ng _ R4.below).mono ?_; rintro e w5 ⟨rfl, hb5⟩; have R5 := R4.next hb5; have T5 := T4.next hb5; obtain ⟨⟨n0, n1, n2⟩, _⟩ := blk3 R5.A; obtain ⟨⟨o0, o1, o2⟩, _⟩ := blk3 R5.B))
  all_goals
    go_wp2_with (first | (go_at_call 68; refine (cmpD_val n m a b ca' cb' x y w5 (by omega) T5.LX T5.LY hx hy tx ty).mono ?_; rintro e w5' ⟨rfl, q, hq⟩; (have hb5' : Below w5.heap.size w5 w5' := by rw [hq]; exact below_drewN (Below.refl _ _) q); clear hq; have R5' := R5.next hb5'; have T5' := T5.next hb5'; obtain ⟨⟨k0, k1, k2⟩, _⟩ := blk3 R5'.A; obtain ⟨⟨l0, l1, l2⟩, _⟩ := blk3 R5'.B; rw [HC.out]) | (go_at_call 65; (with_reducible show Calls Tryd.prog 65 #[Value.agg #[Value.int IntKind.i64 vb, Value.bool gb, Value.slice pb tb cb]] w5' _); refine (RB.ng _ R5'.below).mono ?_; rintro e w6 ⟨rfl, hb6⟩; have R6 := R5'.next hb6; have T6 := T5'.next hb6) | (go_at_call 69; refine (subD_any m n b a cb' ca' y x w6 hmn (by omega) T6.LY T6.LX T6.lb T6.la hy hx (pad n x) rfl).mono ?_; rintro e w7 ⟨rfl, O7, hb7⟩; have R7 := R6.next hb7) | (go_at_call 64; refine (make_any _ m w6.heap.size m (subDig y (pad n x)) _ (by omega) (Nat.le_refl _) O7.cell O7.hi (subDig_lt y (pad n x) hy (pad_lt n x hx))).mono ?_; rintro e w8 ⟨he, hb8⟩; obtain ⟨V, NG, S, L, CC, hM⟩ := madeZ_parts nb w6.heap.size m (trim (subDig y (pad n x)) m) (subDig y (pad n x)); have HM : Hid (_ = _) := hM; (have he2 := he.trans (congrArg Ending.returned hM)); clear he hM; subst he2; have R8 := R7.next hb8; have O8 := O7.next hb8; obtain ⟨⟨z0, z1, z2⟩, z3, z4, z5⟩ := blk3 R8.Z))
    have big := R3.big
    have z43 := hb4.size
    have z54 := hb5.size
    have O9 := ((O8.other (w.heap.size + 1 + 1) 0 (.int .i64 V) (by have := R6.big; omega)).other (w.heap.size + 1 + 1) 1 (.bool NG) (by have := R6.big; omega)).other (w.heap.size + 1 + 1) 2 (.slice S L CC) (by have := R6.big; omega)
    have B9 := ((R8.below.setCell (p := ⟨w.heap.size + 1 + 1, 0, none⟩) (by simp; omega) (.int .i64 V)).setCell (p := ⟨w.heap.size + 1 + 1, 1, none⟩) (by simp; omega) (.bool NG)).setCell (p := ⟨w.heap.size + 1 + 1, 2, none⟩) (by simp; omega) (.slice S L CC)
    exact bodyPost_ret (v := .agg #[.int .i64 V, .bool NG, .slice S L CC]) (by simp [results, Tryd.results41, go_sem, z0, z1, z2]) rfl ⟨w6.heap.size, (subDig y (pad n x)), by rw [HM.out], ⟨O9.cell, O9.free, by have := R6.big; omega, O9.hi⟩, (subDig_lt y (pad n x) hy (pad_lt n x hx)), sub_val m n y x hy hx hmn (Nat.le_of_lt hv), B9⟩

end Go.Proofs.YtoloenkcfpfgcaaDoor
