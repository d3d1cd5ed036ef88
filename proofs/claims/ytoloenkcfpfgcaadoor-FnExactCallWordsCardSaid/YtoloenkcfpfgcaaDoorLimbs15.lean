/- Contract of the model's l1Mul where one number is 0 and the other one holds limbs: the product is 0. -/
import Derived.Test.YtoloenkcfpfgcaaDoorLimbs9
namespace Go.Proofs.YtoloenkcfpfgcaaDoor
open Go.ChangeShapes Go.WideShapes Go.ChangeAt Go.RowKit
theorem sm0 (w : World) : Calls Tryd.prog 61 #[.agg #[.int .i64 0, .bool false, .slice none 0 0]] w fun e w' => e = .returned (.bool true) ∧ Below w.heap.size w w' :=
  (zIsSmall 0 w).mono fun e w'' => by rintro ⟨rfl, rfl⟩; exact ⟨rfl, (Below.refl _ _).alloc (Nat.le_refl _) _⟩

set_option maxRecDepth 100000 in
set_option maxHeartbeats 2000000 in
theorem rMul_zeroL (nb : Bool) (m : Nat) (y : Nat → Nat) (vb : Int) (gb : Bool) (pb : Option Addr) (tb cb : Nat) (w : World) (RB : Rep w (.agg #[.int .i64 vb, .bool gb, .slice pb tb cb]) false nb m y) :
    Calls Tryd.prog 37 #[.agg #[.int .i64 0, .bool false, .slice none 0 0], .agg #[.int .i64 vb, .bool gb, .slice pb tb cb]] w fun r w' => ∃ o s, r = .returned (madeZ s o (m + 1) (trim (fun _ => 0) (m + 1)) (fun _ => 0)) ∧ Own w' w.heap.size o (m + 1) (fun _ => 0) ∧ Below w.heap.size w w' := by
  have hm := RB.len
  obtain ⟨i0, hi, hz0, hz1, hz2⟩ := info_parts info23
  go_enter Tryd.func37, Tryd.ntmps37
  go_wp2_with (first | (go_at_call 61; (with_reducible show Calls Tryd.prog 61 #[Value.agg #[Value.int IntKind.i64 0, Value.bool false, Value.slice none 0 0]] _ _); refine (sm0 _).mono ?_; rintro e w1 ⟨rfl, hb1⟩; have R1 := Args.start.next hb1; obtain ⟨⟨u0, u1, u2⟩, _⟩ := blk3 R1.A; obtain ⟨⟨v0, v1, v2⟩, _⟩ := blk3 R1.B) | (go_at_call 61; (with_reducible show Calls Tryd.prog 61 #[Value.agg #[Value.int IntKind.i64 vb, Value.bool gb, Value.slice pb tb cb]] _ _); refine (RB.sm _ R1.below).mono ?_; rintro e w1b ⟨rfl, hb1b⟩; have R1b := R1.next hb1b; obtain ⟨⟨y0, y1, y2⟩, _⟩ := blk3 R1b.A) | (go_at_call 63; (with_reducible show Calls Tryd.prog 63 #[Value.agg #[Value.int IntKind.i64 0, Value.bool false, Value.slice none 0 0]] _ _); refine (zLimbs0 _).mono ?_; rintro e w2 ⟨rfl, hb2⟩; have R2 := R1b.next hb2; obtain ⟨⟨x0, x1, x2⟩, _⟩ := blk3 R2.B) | (go_at_call 63; (with_reducible show Calls Tryd.prog 63 #[Value.agg #[Value.int IntKind.i64 vb, Value.bool gb, Value.slice pb tb cb]] _ _); refine (RB.lm _ R2.below).mono ?_; rintro e w3 ⟨b, cb', rfl, hb, lb, hb3⟩; have R3 := R2.next hb3) | (at_make; refine wpList_make_full _ rfl _ _ 22 rfl w3.heap.size 23 i0 (.int .u32 0) 1 Tryd.underlying22 hi hz0 hz1 _ _ _ _ (m + 1) rfl rfl (by first | rfl | omega) (by first | rfl | omega) (by rw [hz2]; omega) (by unfold maxLen; omega) (Nat.le_refl _) ?_; intro w4 hown hgrow))
  have O1 : Own w4 w3.heap.size w3.heap.size (m + 1) (fun _ => 0) := own_made hown (Nat.le_refl _) (hown.lt _ rfl).2
  have B4 : Below w3.heap.size w3 w4 := (Below.refl _ _).grown hgrow (Nat.le_refl _) (by simp)
  clear hown hgrow hi hz0 hz1 hz2
  have OF := O1
  have BF := B4
  refine wp_loop_rounds 1 ?_
  rw [rounds_succ]
  go_wp2
  have R5 := R3.next BF
  obtain ⟨⟨s0, s1, s2⟩, _⟩ := blk3 R5.A
  obtain ⟨⟨r0, r1, r2⟩, _⟩ := blk3 R5.B
  have f9 : ∀ i : Nat, (fun _ => 0 : Nat → Nat) i < 1000000000 := fun _ => by show 0 < 1000000000; decide
  go_region_with (first | (go_at_call 65; (with_reducible show Calls Tryd.prog 65 #[Value.agg #[Value.int IntKind.i64 0, Value.bool false, Value.slice none 0 0]] _ _); refine (zNeg 0 _).mono ?_; rintro e w6 ⟨rfl, hb6⟩; have R6 := R5.drew.next hb6; have O6 := OF.drew.next hb6; obtain ⟨⟨t0, t1, t2⟩, _⟩ := blk3 R6.B) | (go_at_call 65; (with_reducible show Calls Tryd.prog 65 #[Value.agg #[Value.int IntKind.i64 vb, Value.bool gb, Value.slice pb tb cb]] _ _); refine (RB.ng _ R6.below).mono ?_; rintro e w7 ⟨rfl, hb7⟩; have R7 := R6.next hb7; have O7 := O6.next hb7) | (go_at_call 64; refine (make_any _ (m + 1) w3.heap.size (m + 1) (fun _ => 0) _ (by omega) (Nat.le_refl _) O7.cell O7.hi f9).mono ?_; rintro e w8 ⟨he, hb8⟩; obtain ⟨V, N, S, L, CC, hM⟩ := madeZ_parts nb w3.heap.size (m + 1) (trim (fun _ => 0) (m + 1)) (fun _ => 0); have HM : Hid (_ = _) := hM; (have he2 := he.trans (congrArg Ending.returned hM)); clear he hM; subst he2; have R8 := R7.next hb8; have O8 := O7.next hb8; obtain ⟨⟨z0, z1, z2⟩, z3, z4, z5⟩ := blk3 R8.Z))
  all_goals
    have big := R3.big
    have O9 := ((O8.other (w.heap.size + 1 + 1) 0 (.int .i64 V) (by omega)).other (w.heap.size + 1 + 1) 1 (.bool N) (by omega)).other (w.heap.size + 1 + 1) 2 (.slice S L CC) (by omega)
    have B9 := ((R8.below.setCell (p := ⟨w.heap.size + 1 + 1, 0, none⟩) (by simp; omega) (.int .i64 V)).setCell (p := ⟨w.heap.size + 1 + 1, 1, none⟩) (by simp; omega) (.bool N)).setCell (p := ⟨w.heap.size + 1 + 1, 2, none⟩) (by simp; omega) (.slice S L CC)
    go_wp2
    exact bodyPost_ret (v := .agg #[.int .i64 V, .bool N, .slice S L CC]) (by simp [results, Tryd.results37, go_sem, z0, z1, z2]) rfl ⟨w3.heap.size, nb, by rw [HM.out], ⟨O9.cell, O9.free, by omega, O9.hi⟩, B9⟩

set_option maxRecDepth 100000 in
set_option maxHeartbeats 2000000 in
theorem rMul_zeroR (nb : Bool) (m : Nat) (y : Nat → Nat) (vb : Int) (gb : Bool) (pb : Option Addr) (tb cb : Nat) (w : World) (RB : Rep w (.agg #[.int .i64 vb, .bool gb, .slice pb tb cb]) false nb m y) :
    Calls Tryd.prog 37 #[.agg #[.int .i64 vb, .bool gb, .slice pb tb cb], .agg #[.int .i64 0, .bool false, .slice none 0 0]] w fun r w' => ∃ o s, r = .returned (madeZ s o (m + 1) (trim (fun _ => 0) (m + 1)) (fun _ => 0)) ∧ Own w' w.heap.size o (m + 1) (fun _ => 0) ∧ Below w.heap.size w w' := by
  have hm := RB.len
  obtain ⟨i0, hi, hz0, hz1, hz2⟩ := info_parts info23
  go_enter Tryd.func37, Tryd.ntmps37
  go_wp2_with (first | (go_at_call 61; (with_reducible show Calls Tryd.prog 61 #[Value.agg #[Value.int IntKind.i64 vb, Value.bool gb, Value.slice pb tb cb]] _ _); refine (RB.sm _ Args.start.below).mono ?_; rintro e w1 ⟨rfl, hb1⟩; have R1 := Args.start.next hb1; obtain ⟨⟨u0, u1, u2⟩, _⟩ := blk3 R1.A; obtain ⟨⟨v0, v1, v2⟩, _⟩ := blk3 R1.B) | (go_at_call 63; (with_reducible show Calls Tryd.prog 63 #[Value.agg #[Value.int IntKind.i64 vb, Value.bool gb, Value.slice pb tb cb]] _ _); refine (RB.lm _ R1.below).mono ?_; rintro e w2 ⟨b, cb', rfl, hb, lb, hb2⟩; have R2 := R1.next hb2; obtain ⟨⟨x0, x1, x2⟩, _⟩ := blk3 R2.B) | (go_at_call 63; (with_reducible show Calls Tryd.prog 63 #[Value.agg #[Value.int IntKind.i64 0, Value.bool false, Value.slice none 0 0]] _ _); refine (zLimbs0 _).mono ?_; rintro e w3 ⟨rfl, hb3⟩; have R3 := R2.next hb3) | (at_make; refine wpList_make_full _ rfl _ _ 22 rfl w3.heap.size 23 i0 (.int .u32 0) 1 Tryd.underlying22 hi hz0 hz1 _ _ _ _ (m + 1) rfl rfl (by first | rfl | omega) (by first | rfl | omega) (by rw [hz2]; omega) (by unfold maxLen; omega) (Nat.le_refl _) ?_; intro w4 hown hgrow))
  have O1 : Own w4 w3.heap.size w3.heap.size (m + 1) (fun _ => 0) := own_made hown (Nat.le_refl _) (hown.lt _ rfl).2
  have B4 : Below w3.heap.size w3 w4 := (Below.refl _ _).grown hgrow (Nat.le_refl _) (by simp)
  clear hown hgrow hi hz0 hz1 hz2
  go_loopw [53] (fun iv wr => ∃ i : Nat, i ≤ m ∧ iv = .int .i64 i ∧ Own wr w3.heap.size w3.heap.size (m + 1) (fun _ => 0) ∧ Below w3.heap.size w3 wr) (fun iv _ => m - (intOf iv).toNat)
  case atStart => exact ⟨0, by omega, rfl, O1, B4⟩
  case round =>
    obtain ⟨i, hi, rfl, OF, BF⟩ := hrel
    by_cases hiN : i < m
    · have hiI : (i : Int) < (m : Int) := by omega
      have i0 : (0 : Int) ≤ (i : Int) := by omega
      have i2 : (i : Int) < ((m + 1 : Nat) : Int) := by omega
      have i3 : (i : Int) < (m : Int) + 1 := by omega
      have f0 := OF.free i
      have g0 : wr.cell? ⟨w3.heap.size, i, none⟩ = some (.int .u32 0) := OF.cell i (by omega)
      go_wp2
      refine wp_loop_rounds 1 ?_
      rw [rounds_succ]
      go_wp2
      go_roundw
      case rel => exact ⟨i + 1, by omega, by go_num, OF.set' i 0 _ (by first | rfl | omega) (by omega) (fun j hj => by split <;> rfl), BF.setCell (Nat.le_refl _) _⟩
      case measure => simp [intOf]; omega
    · have hin : i = m := by omega
      subst hin
      have R5 := R3.next BF
      obtain ⟨⟨s0, s1, s2⟩, _⟩ := blk3 R5.A
      obtain ⟨⟨r0, r1, r2⟩, _⟩ := blk3 R5.B
      have f9 : ∀ i : Nat, (fun _ => 0 : Nat → Nat) i < 1000000000 := fun _ => by show 0 < 1000000000; decide
      go_wp2
      go_region_with (first | (go_at_call 65; (with_reducible show Calls Tryd.prog 65 #[Value.agg #[Value.int IntKind.i64 vb, Value.bool gb, Value.slice pb tb cb]] _ _); refine (RB.ng _ R5.drew.below).mono ?_; rintro e w6 ⟨rfl, hb6⟩; have R6 := R5.drew.next hb6; have O6 := OF.drew.next hb6; obtain ⟨⟨t0, t1, t2⟩, _⟩ := blk3 R6.B) | (go_at_call 65; (with_reducible show Calls Tryd.prog 65 #[Value.agg #[Value.int IntKind.i64 0, Value.bool false, Value.slice none 0 0]] _ _); refine (zNeg 0 _).mono ?_; rintro e w7 ⟨rfl, hb7⟩; have R7 := R6.next hb7; have O7 := O6.next hb7) | (go_at_call 64; refine (make_any _ (i + 1) w3.heap.size (i + 1) (fun _ => 0) _ (by omega) (Nat.le_refl _) O7.cell O7.hi f9).mono ?_; rintro e w8 ⟨he, hb8⟩; obtain ⟨V, N, S, L, CC, hM⟩ := madeZ_parts nb w3.heap.size (i + 1) (trim (fun _ => 0) (i + 1)) (fun _ => 0); have HM : Hid (_ = _) := hM; (have he2 := he.trans (congrArg Ending.returned hM)); clear he hM; subst he2; have R8 := R7.next hb8; have O8 := O7.next hb8; obtain ⟨⟨z0, z1, z2⟩, z3, z4, z5⟩ := blk3 R8.Z))
      all_goals
        have big := R3.big
        have O9 := ((O8.other (w.heap.size + 1 + 1) 0 (.int .i64 V) (by omega)).other (w.heap.size + 1 + 1) 1 (.bool N) (by omega)).other (w.heap.size + 1 + 1) 2 (.slice S L CC) (by omega)
        have B9 := ((R8.below.setCell (p := ⟨w.heap.size + 1 + 1, 0, none⟩) (by simp; omega) (.int .i64 V)).setCell (p := ⟨w.heap.size + 1 + 1, 1, none⟩) (by simp; omega) (.bool N)).setCell (p := ⟨w.heap.size + 1 + 1, 2, none⟩) (by simp; omega) (.slice S L CC)
        go_wp2
        exact bodyPost_ret (v := .agg #[.int .i64 V, .bool N, .slice S L CC]) (by simp [results, Tryd.results37, go_sem, z0, z1, z2]) rfl ⟨w3.heap.size, nb, by rw [HM.out], ⟨O9.cell, O9.free, by omega, O9.hi⟩, B9⟩

end Go.Proofs.YtoloenkcfpfgcaaDoor
