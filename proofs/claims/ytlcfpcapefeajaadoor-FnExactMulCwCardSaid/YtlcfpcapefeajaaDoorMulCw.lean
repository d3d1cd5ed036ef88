/- Proved: for every two complex numbers (two words each) the law FnExactMulCw returns true (MulCw answers as its model) and the arguments read afterwards as before; conditions: the table of float forms holds what its initialiser lays (the card ties it). -/
import Derived.Test.YtlcfpcapefeajaaDoorMulA
import Derived.Test.YtlcfpcapefeajaaDoorCards
import Derived.Test.YtlcfpcapefeajaaDoorTie
import Derived.Lib.SmallJoins
import Derived.Carry
namespace Go.Proofs.YtlcfpcapefeajaaDoor.fnExactMulCw
open Go.ChangeShapes Go.WideShapes Go.ChangeAt Go.RowKit
set_option linter.unusedVariables false
theorem laidOut : laidOutB Tryd.prog = true := by kernel_rfl
theorem cells24 : Tryd.prog.cellsOf 24 = 2 := by kernel_rfl
theorem to10 (a b : Int) (w : World) : Calls Tryd.prog 10 #[.agg #[.int .u32 a, .int .u32 b]] w fun e w' => e = .returned (.agg #[.int .u32 a, .int .u32 b]) ∧ Below w.heap.size w w' := by
  go_enter Tryd.func10, Tryd.ntmps10
  go_wp2
  exact bodyPost_ret (v := .agg #[.int .u32 a, .int .u32 b]) (by simp [results, Tryd.results10, go_sem]) rfl ⟨rfl, by repeat (first | exact Below.refl _ _ | apply Below.drew | refine Below.setCell ?_ (by simp) _ | refine Below.alloc ?_ (by first | (simp; done) | (simp; omega)) _)⟩
theorem eq12 (a b : Int) (w : World) : Calls Tryd.prog 12 #[.agg #[.int .u32 a, .int .u32 b], .agg #[.int .u32 a, .int .u32 b]] w fun e w' => e = .returned (.bool true) ∧ Below w.heap.size w w' := by
  go_enter Tryd.func12, Tryd.ntmps12
  go_wp2
  go_ret
  exact ⟨rfl, by repeat (first | exact Below.refl _ _ | apply Below.drew | refine Below.setCell ?_ (by simp) _ | refine Below.alloc ?_ (by first | (simp; done) | (simp; omega)) _)⟩
/-- The two structs of a law in memory. -/
structure Sk (w : World) (k : Nat) (a0 a1 b0 b1 : Int) (v : World) : Prop where
  p0 : v.cell? ⟨k, 0, none⟩ = some (.int .u32 a0)
  p1 : v.cell? ⟨k, 1, none⟩ = some (.int .u32 a1)
  p2 : v.cell? ⟨k + 1, 0, none⟩ = some (.int .u32 b0)
  p3 : v.cell? ⟨k + 1, 1, none⟩ = some (.int .u32 b1)
  lt : k + 1 < v.heap.size
  below : Below w.heap.size w v
theorem Sk.next {w : World} {k : Nat} {a0 a1 b0 b1 : Int} {v v' : World} (hb : Below v.heap.size v v') (h : Sk w k a0 a1 b0 b1 v) : Sk w k a0 a1 b0 b1 v' := by
  have l := h.lt
  exact ⟨(hb.cell (p := ⟨k, 0, none⟩) (show k < v.heap.size by omega)).trans h.p0, (hb.cell (p := ⟨k, 1, none⟩) (show k < v.heap.size by omega)).trans h.p1, (hb.cell (p := ⟨k + 1, 0, none⟩) l).trans h.p2, (hb.cell (p := ⟨k + 1, 1, none⟩) l).trans h.p3, Nat.lt_of_lt_of_le l hb.size, h.below.trans (hb.mono h.below.size)⟩
theorem Sk.drew {w : World} {k : Nat} {a0 a1 b0 b1 : Int} {v : World} (h : Sk w k a0 a1 b0 b1 v) : Sk w k a0 a1 b0 b1 v.drew := ⟨h.p0, h.p1, h.p2, h.p3, h.lt, h.below.drew⟩
theorem Sk.alloc {w : World} {k : Nat} {a0 a1 b0 b1 : Int} {v : World} (h : Sk w k a0 a1 b0 b1 v) (o : Obj) : Sk w k a0 a1 b0 b1 (v.alloc o) := h.next ((Below.refl _ _).alloc (Nat.le_refl _) _)
theorem Sk.set {w : World} {k : Nat} {a0 a1 b0 b1 : Int} {v : World} (h : Sk w k a0 a1 b0 b1 v) {b : Nat} (hb : k + 1 < b) (x y : Value) (hw : w.heap.size ≤ b) : Sk w k a0 a1 b0 b1 ((v.setCell ⟨b, 0, none⟩ x).setCell ⟨b, 1, none⟩ y) :=
  ⟨cell_set2 (by omega) h.p0, cell_set2 (by omega) h.p1, cell_set2 (by omega) h.p2, cell_set2 (by omega) h.p3, by simpa using h.lt, (h.below.setCell (p := ⟨b, 0, none⟩) hw _).setCell (p := ⟨b, 1, none⟩) hw _⟩
/-- A struct of two words in memory. -/
structure Two (b : Nat) (P Q : Int) (v : World) : Prop where
  c0 : v.cell? ⟨b, 0, none⟩ = some (.int .u32 P)
  c1 : v.cell? ⟨b, 1, none⟩ = some (.int .u32 Q)
  lt : b < v.heap.size
theorem Two.next {b : Nat} {P Q : Int} {v v' : World} (hb : Below v.heap.size v v') (h : Two b P Q v) : Two b P Q v' :=
  ⟨(hb.cell (p := ⟨b, 0, none⟩) h.lt).trans h.c0, (hb.cell (p := ⟨b, 1, none⟩) h.lt).trans h.c1, Nat.lt_of_lt_of_le h.lt hb.size⟩
theorem Two.drew {b : Nat} {P Q : Int} {v : World} (h : Two b P Q v) : Two b P Q v.drew := ⟨h.c0, h.c1, h.lt⟩
theorem Two.alloc {b : Nat} {P Q : Int} {v : World} (h : Two b P Q v) (o : Obj) : Two b P Q (v.alloc o) := h.next ((Below.refl _ _).alloc (Nat.le_refl _) _)
theorem Two.set {b : Nat} {P Q : Int} {v : World} (h : Two b P Q v) {c : Nat} (hc : b ≠ c) (x y : Value) : Two b P Q ((v.setCell ⟨c, 0, none⟩ x).setCell ⟨c, 1, none⟩ y) :=
  ⟨cell_set2 hc h.c0, cell_set2 hc h.c1, by simpa using h.lt⟩
theorem two_new (v : World) (P Q : Int) : Two v.heap.size P Q (v.alloc (.cells #[.int .u32 P, .int .u32 Q] 25)) := by
  obtain ⟨⟨h0, h1⟩, _⟩ := blk2 (heap_alloc_new v (.cells #[.int .u32 P, .int .u32 Q] 25))
  exact ⟨h0, h1, by simp⟩
theorem two_set {v : World} {b : Nat} {P Q : Int} {x y : Value} (h : v.heap[b]? = some (.cells #[x, y] 25 (0, 0))) : Two b P Q ((v.setCell ⟨b, 0, none⟩ (.int .u32 P)).setCell ⟨b, 1, none⟩ (.int .u32 Q)) := by
  obtain ⟨⟨h0, h1⟩, _⟩ := blk2 (set2h (y0 := .int .u32 P) (y1 := .int .u32 Q) h)
  exact ⟨h0, h1, lt_of_block (set2h (y0 := .int .u32 P) (y1 := .int .u32 Q) h)⟩
theorem both (a0 a1 b0 b1 : Int) (a00 : 0 ≤ a0) (a01 : a0 < 4294967296) (a10 : 0 ≤ a1) (a11 : a1 < 4294967296) (b00 : 0 ≤ b0) (b01 : b0 < 4294967296) (b10 : 0 ≤ b1) (b11 : b1 < 4294967296) : ∃ P Q : Int,
    (∀ w : World, Calls Tryd.prog 13 #[.agg #[.int .u32 a0, .int .u32 a1], .agg #[.int .u32 b0, .int .u32 b1]] w fun e w' => e = .returned (.agg #[.int .u32 P, .int .u32 Q]) ∧ Below w.heap.size w w') ∧
    (∀ w : World, Forms w → Calls Tryd.prog 14 #[.agg #[.int .u32 a0, .int .u32 a1], .agg #[.int .u32 b0, .int .u32 b1]] w fun e w' => e = .returned (.agg #[.int .u32 P, .int .u32 Q]) ∧ Below w.heap.size w w') := by
  obtain ⟨R1, ⟨q10, q11⟩, s1, i1⟩ := fnExactMulWords.both a0 b0 0 ⟨by decide, by decide⟩ a00 a01 b00 b01
  obtain ⟨R2, ⟨q20, q21⟩, s2, i2⟩ := fnExactMulWords.both a1 b1 0 ⟨by decide, by decide⟩ a10 a11 b10 b11
  obtain ⟨R5, ⟨q50, q51⟩, s5, i5⟩ := fnExactMulWords.both a0 b1 0 ⟨by decide, by decide⟩ a00 a01 b10 b11
  obtain ⟨R6, ⟨q60, q61⟩, s6, i6⟩ := fnExactMulWords.both a1 b0 0 ⟨by decide, by decide⟩ a10 a11 b00 b01
  obtain ⟨f0, f1⟩ := flip_bd R2 q20 q21
  obtain ⟨R4, s4, i4⟩ := fnExactAddWords.both R1 (flip R2) 0 ⟨by decide, by decide⟩ q10 q11 f0 f1
  obtain ⟨R7, s7, i7⟩ := fnExactAddWords.both R5 R6 0 ⟨by decide, by decide⟩ q50 q51 q60 q61
  exact ⟨R4, R7, fun w => mulS13 a0 a1 b0 b1 R1 R2 (flip R2) R4 R5 R6 R7 (fun v => mul32 _ _ _ s1 v) (fun v => mul32 _ _ _ s2 v) (fun v => flip33 R2 v) (fun v => add30 _ _ _ s4 v) (fun v => mul32 _ _ _ s5 v) (fun v => mul32 _ _ _ s6 v) (fun v => add30 _ _ _ s7 v) w, fun w G => mulI14 a0 a1 b0 b1 R1 R2 (flip R2) R4 R5 R6 R7 i1 i2 (fun v G => flip35 R2 v G) i4 i5 i6 i7 w G⟩
set_option maxRecDepth 100000 in
set_option maxHeartbeats 4000000 in
theorem walk (a0 a1 b0 b1 : Int) (a00 : 0 ≤ a0) (a01 : a0 < 4294967296) (a10 : 0 ≤ a1) (a11 : a1 < 4294967296) (b00 : 0 ≤ b0) (b01 : b0 < 4294967296) (b10 : 0 ≤ b1) (b11 : b1 < 4294967296) (w : World) (G : Forms w) :
    Calls Tryd.prog 4 #[.agg #[.int .u32 a0, .int .u32 a1], .agg #[.int .u32 b0, .int .u32 b1]] w fun e w' => e = .returned (.bool true) ∧ Below w.heap.size w w' := by
  obtain ⟨P, Q, hs, hi⟩ := both a0 a1 b0 b1 a00 a01 a10 a11 b00 b01 b10 b11
  have HS : Hid (∀ w : World, Calls Tryd.prog 13 #[.agg #[.int .u32 a0, .int .u32 a1], .agg #[.int .u32 b0, .int .u32 b1]] w fun e w' => e = .returned (.agg #[.int .u32 P, .int .u32 Q]) ∧ Below w.heap.size w w') := hs
  have HI : Hid (∀ w : World, Forms w → Calls Tryd.prog 14 #[.agg #[.int .u32 a0, .int .u32 a1], .agg #[.int .u32 b0, .int .u32 b1]] w fun e w' => e = .returned (.agg #[.int .u32 P, .int .u32 Q]) ∧ Below w.heap.size w w') := hi
  have HG : Hid (Forms w) := G
  clear hs hi G
  go_enter Tryd.func4, Tryd.ntmps4
  go_wp2
  obtain ⟨W0, hW0⟩ : ∃ W0, W0 = (w.alloc (.cells #[.int .u32 a0, .int .u32 a1] 24)).alloc (.cells #[.int .u32 b0, .int .u32 b1] 24) := ⟨_, rfl⟩
  obtain ⟨k, hk⟩ : ∃ k, k = w.heap.size := ⟨_, rfl⟩
  have A0 : W0.heap[k]? = some (.cells #[.int .u32 a0, .int .u32 a1] 24 (0, 0)) := by rw [hW0, hk, Below.heap_alloc _ _ _ (by first | (simp; done) | (simp; omega))]; exact heap_alloc_new _ _
  have B0 : W0.heap[k + 1]? = some (.cells #[.int .u32 b0, .int .u32 b1] 24 (0, 0)) := by rw [hW0, hk]; exact heap_alloc_at (by simp)
  have bl0 : Below w.heap.size w W0 := by rw [hW0]; exact ((Below.refl _ _).alloc (by omega) _).alloc (by simp) _
  have z0 : k + 1 < W0.heap.size := by rw [hW0, hk]; first | (simp; done) | (simp; omega)
  rw [← hW0, ← hk]
  have hkw : w.heap.size ≤ k := by omega
  clear hW0 hk
  obtain ⟨⟨s00, s01⟩, _⟩ := blk2 A0
  obtain ⟨⟨t00, t01⟩, _⟩ := blk2 B0
  have S0 : Sk w k a0 a1 b0 b1 W0 := ⟨s00, s01, t00, t01, z0, bl0⟩
  have ne0a : ¬ k = W0.heap.size := by omega
  have r00 := fun o => (S0.drew.alloc o).p0
  have r01 := fun o => (S0.drew.alloc o).p1
  have r02 := fun o => (S0.drew.alloc o).p2
  have r03 := fun o => (S0.drew.alloc o).p3
  have ne0b : ¬ k + 1 = W0.heap.size := by omega
  clear A0 B0
  go_cut [5] (fun v5 wx => ∃ b, v5 = .pointer (some ⟨b, 0, none⟩) ∧ Two b P Q wx ∧ Sk w k a0 a1 b0 b1 wx)
  case first =>
    go_region_held3 (fun v => v.cell? ⟨k, 0, none⟩ = some (.int .u32 a0) ∧ v.cell? ⟨k, 1, none⟩ = some (.int .u32 a1) ∧ v.cell? ⟨k + 1, 0, none⟩ = some (.int .u32 b0) ∧ v.cell? ⟨k + 1, 1, none⟩ = some (.int .u32 b1)) (first | with_reducible exact ⟨(S0).p0, (S0).p1, (S0).p2, (S0).p3⟩ | with_reducible exact ⟨(S0.drew).p0, (S0.drew).p1, (S0.drew).p2, (S0.drew).p3⟩ | with_reducible exact ⟨(S0.drew.alloc _).p0, (S0.drew.alloc _).p1, (S0.drew.alloc _).p2, (S0.drew.alloc _).p3⟩ | with_reducible exact ⟨(S1k).p0, (S1k).p1, (S1k).p2, (S1k).p3⟩ | with_reducible exact ⟨(S1k.alloc _).p0, (S1k.alloc _).p1, (S1k.alloc _).p2, (S1k.alloc _).p3⟩ | with_reducible exact ⟨(S2k).p0, (S2k).p1, (S2k).p2, (S2k).p3⟩ | with_reducible exact ⟨(S2k.alloc _).p0, (S2k.alloc _).p1, (S2k.alloc _).p2, (S2k.alloc _).p3⟩ | with_reducible exact ⟨(S3k).p0, (S3k).p1, (S3k).p2, (S3k).p3⟩ | with_reducible exact ⟨(S3k.alloc _).p0, (S3k.alloc _).p1, (S3k.alloc _).p2, (S3k.alloc _).p3⟩ | with_reducible exact ⟨(Sk.set S3k (b := W0.heap.size) (by omega) _ _ (by have := S0.below.size; omega)).p0, (Sk.set S3k (b := W0.heap.size) (by omega) _ _ (by have := S0.below.size; omega)).p1, (Sk.set S3k (b := W0.heap.size) (by omega) _ _ (by have := S0.below.size; omega)).p2, (Sk.set S3k (b := W0.heap.size) (by omega) _ _ (by have := S0.below.size; omega)).p3⟩ | with_reducible exact ⟨(Sk.set S3k (b := w1.heap.size) (by omega) _ _ (by have := S0.below.size; omega)).p0, (Sk.set S3k (b := w1.heap.size) (by omega) _ _ (by have := S0.below.size; omega)).p1, (Sk.set S3k (b := w1.heap.size) (by omega) _ _ (by have := S0.below.size; omega)).p2, (Sk.set S3k (b := w1.heap.size) (by omega) _ _ (by have := S0.below.size; omega)).p3⟩ | with_reducible exact ⟨(Sk.set S3k (b := w2.heap.size) (by omega) _ _ (by have := S0.below.size; omega)).p0, (Sk.set S3k (b := w2.heap.size) (by omega) _ _ (by have := S0.below.size; omega)).p1, (Sk.set S3k (b := w2.heap.size) (by omega) _ _ (by have := S0.below.size; omega)).p2, (Sk.set S3k (b := w2.heap.size) (by omega) _ _ (by have := S0.below.size; omega)).p3⟩ | (go_keep; done)) (first | (go_at_call 10; (with_reducible show Calls Tryd.prog 10 #[Value.agg #[Value.int IntKind.u32 a0, Value.int IntKind.u32 a1]] _ _); refine (to10 a0 a1 _).mono ?_; rintro e w1 ⟨rfl, hc1⟩; (have S1 := Sk.next hc1 (by first | exact S0.drew | exact S0.drew.alloc _ | exact S0 | exact S0.alloc _)); (have S1k := S1); obtain ⟨q10, q11, q12, q13, q14, q15⟩ := S1; (have ne1a : ¬ k = w1.heap.size := by omega); (have ne1b : ¬ k + 1 = w1.heap.size := by omega); (have r10 := fun o => (S1k.alloc o).p0); (have r11 := fun o => (S1k.alloc o).p1); (have r12 := fun o => (S1k.alloc o).p2); (have r13 := fun o => (S1k.alloc o).p3); (try (have y1 : w1.heap[W0.heap.size]? = some (.cells #[.int .u32 0, .int .u32 0] 25 (0, 0)) := (hc1.block W0.heap.size (by simp; done)).trans (heap_alloc_new _ _); obtain ⟨⟨y1a, y1b⟩, y1c, y1d⟩ := blk2 y1))) | (go_at_call 10; (with_reducible show Calls Tryd.prog 10 #[Value.agg #[Value.int IntKind.u32 b0, Value.int IntKind.u32 b1]] _ _); refine (to10 b0 b1 _).mono ?_; rintro e w2 ⟨rfl, hc2⟩; (have S2 := Sk.next hc2 (by first | exact S1k | exact S1k.alloc _)); (have S2k := S2); obtain ⟨q20, q21, q22, q23, q24, q25⟩ := S2; (have ne2a : ¬ k = w2.heap.size := by omega); (have ne2b : ¬ k + 1 = w2.heap.size := by omega); (have r20 := fun o => (S2k.alloc o).p0); (have r21 := fun o => (S2k.alloc o).p1); (have r22 := fun o => (S2k.alloc o).p2); (have r23 := fun o => (S2k.alloc o).p3); (try (have y2 : w2.heap[W0.heap.size]? = some (.cells #[.int .u32 0, .int .u32 0] 25 (0, 0)) := (hc2.block W0.heap.size (lt_of_block y1)).trans y1; obtain ⟨⟨y2a, y2b⟩, y2c, y2d⟩ := blk2 y2)); (try (have x2 : w2.heap[w1.heap.size]? = some (.cells #[.int .u32 0, .int .u32 0] 25 (0, 0)) := (hc2.block w1.heap.size (by simp; done)).trans (heap_alloc_new _ _); obtain ⟨⟨x2a, x2b⟩, x2c, x2d⟩ := blk2 x2))) | (go_at_call 13; refine ((Hid.out HS) _).mono ?_; rintro e w3 ⟨rfl, hc3⟩; (have S3 := Sk.next hc3 (by first | exact S2k | exact S2k.alloc _)); (have S3k := S3); obtain ⟨q30, q31, q32, q33, q34, q35⟩ := S3; (have ne3a : ¬ k = w3.heap.size := by omega); (have ne3b : ¬ k + 1 = w3.heap.size := by omega); (try (have y3 : w3.heap[W0.heap.size]? = some (.cells #[.int .u32 0, .int .u32 0] 25 (0, 0)) := (hc3.block W0.heap.size (lt_of_block y2)).trans y2; obtain ⟨⟨y3a, y3b⟩, y3c, y3d⟩ := blk2 y3)); (try (have x3 : w3.heap[w1.heap.size]? = some (.cells #[.int .u32 0, .int .u32 0] 25 (0, 0)) := (hc3.block w1.heap.size (lt_of_block x2)).trans x2; obtain ⟨⟨x3a, x3b⟩, x3c, x3d⟩ := blk2 x3)); (try (have v3 : w3.heap[w2.heap.size]? = some (.cells #[.int .u32 0, .int .u32 0] 25 (0, 0)) := (hc3.block w2.heap.size (by simp; done)).trans (heap_alloc_new _ _); obtain ⟨⟨v3a, v3b⟩, v3c, v3d⟩ := blk2 v3))))
    all_goals go_wp2
    all_goals go_meet
    all_goals first | exact ⟨_, rfl, two_new w3 P Q, S3k.alloc _⟩ | exact ⟨_, rfl, two_set v3, S3k.set S2k.lt _ _ S2k.below.size⟩ | exact ⟨_, rfl, two_set x3, S3k.set S1k.lt _ _ S1k.below.size⟩ | exact ⟨_, rfl, two_set y3, S3k.set S0.lt _ _ S0.below.size⟩
  case rest =>
    obtain ⟨b, rfl, TC, SC⟩ := hcut
    clear S0 s00 s01 t00 t01 ne0a ne0b r00 r01 r02 r03
    obtain ⟨sc0, sc1, sc2, sc3, sc4, sc5⟩ := id SC
    have neca : ¬ k = wc.heap.size := by omega
    have necb : ¬ k + 1 = wc.heap.size := by omega
    go_wp2
    go_cut [6] (fun v6 wx => ∃ c, v6 = .pointer (some ⟨c, 0, none⟩) ∧ Two c P Q wx ∧ Two b P Q wx ∧ Below w.heap.size w wx)
    case first =>
      go_region_held3 (fun v => v.cell? ⟨k, 0, none⟩ = some (.int .u32 a0) ∧ v.cell? ⟨k, 1, none⟩ = some (.int .u32 a1) ∧ v.cell? ⟨k + 1, 0, none⟩ = some (.int .u32 b0) ∧ v.cell? ⟨k + 1, 1, none⟩ = some (.int .u32 b1)) (first | with_reducible exact ⟨(SC).p0, (SC).p1, (SC).p2, (SC).p3⟩ | with_reducible exact ⟨(SC.drew).p0, (SC.drew).p1, (SC.drew).p2, (SC.drew).p3⟩ | with_reducible exact ⟨(SC.drew.alloc _).p0, (SC.drew.alloc _).p1, (SC.drew.alloc _).p2, (SC.drew.alloc _).p3⟩ | with_reducible exact ⟨(S4k).p0, (S4k).p1, (S4k).p2, (S4k).p3⟩ | with_reducible exact ⟨(S4k.alloc _).p0, (S4k.alloc _).p1, (S4k.alloc _).p2, (S4k.alloc _).p3⟩ | with_reducible exact ⟨(S5k).p0, (S5k).p1, (S5k).p2, (S5k).p3⟩ | with_reducible exact ⟨(S5k.alloc _).p0, (S5k.alloc _).p1, (S5k.alloc _).p2, (S5k.alloc _).p3⟩ | with_reducible exact ⟨(S6k).p0, (S6k).p1, (S6k).p2, (S6k).p3⟩ | with_reducible exact ⟨(S6k.alloc _).p0, (S6k.alloc _).p1, (S6k.alloc _).p2, (S6k.alloc _).p3⟩ | with_reducible exact ⟨(Sk.set S6k (b := wc.heap.size) (by omega) _ _ (by have := SC.below.size; omega)).p0, (Sk.set S6k (b := wc.heap.size) (by omega) _ _ (by have := SC.below.size; omega)).p1, (Sk.set S6k (b := wc.heap.size) (by omega) _ _ (by have := SC.below.size; omega)).p2, (Sk.set S6k (b := wc.heap.size) (by omega) _ _ (by have := SC.below.size; omega)).p3⟩ | with_reducible exact ⟨(Sk.set S6k (b := w4.heap.size) (by omega) _ _ (by have := SC.below.size; omega)).p0, (Sk.set S6k (b := w4.heap.size) (by omega) _ _ (by have := SC.below.size; omega)).p1, (Sk.set S6k (b := w4.heap.size) (by omega) _ _ (by have := SC.below.size; omega)).p2, (Sk.set S6k (b := w4.heap.size) (by omega) _ _ (by have := SC.below.size; omega)).p3⟩ | with_reducible exact ⟨(Sk.set S6k (b := w5.heap.size) (by omega) _ _ (by have := SC.below.size; omega)).p0, (Sk.set S6k (b := w5.heap.size) (by omega) _ _ (by have := SC.below.size; omega)).p1, (Sk.set S6k (b := w5.heap.size) (by omega) _ _ (by have := SC.below.size; omega)).p2, (Sk.set S6k (b := w5.heap.size) (by omega) _ _ (by have := SC.below.size; omega)).p3⟩ | (go_keep; done)) (first | (go_at_call 10; (with_reducible show Calls Tryd.prog 10 #[Value.agg #[Value.int IntKind.u32 a0, Value.int IntKind.u32 a1]] _ _); refine (to10 a0 a1 _).mono ?_; rintro e w4 ⟨rfl, hc4⟩; (have S4 := Sk.next hc4 (by first | exact SC.drew | exact SC.drew.alloc _ | exact SC | exact SC.alloc _)); (have S4k := S4); (have T4 := Two.next hc4 (by first | exact TC.drew | exact TC.drew.alloc _ | exact TC | exact TC.alloc _)); obtain ⟨q40, q41, q42, q43, q44, q45⟩ := S4; (have ne4a : ¬ k = w4.heap.size := by omega); (have ne4b : ¬ k + 1 = w4.heap.size := by omega); (have r40 := fun o => (S4k.alloc o).p0); (have r41 := fun o => (S4k.alloc o).p1); (have r42 := fun o => (S4k.alloc o).p2); (have r43 := fun o => (S4k.alloc o).p3); (try (have y4 : w4.heap[wc.heap.size]? = some (.cells #[.int .u32 0, .int .u32 0] 25 (0, 0)) := (hc4.block wc.heap.size (by simp; done)).trans (heap_alloc_new _ _); obtain ⟨⟨y4a, y4b⟩, y4c, y4d⟩ := blk2 y4))) | (go_at_call 10; (with_reducible show Calls Tryd.prog 10 #[Value.agg #[Value.int IntKind.u32 b0, Value.int IntKind.u32 b1]] _ _); refine (to10 b0 b1 _).mono ?_; rintro e w5 ⟨rfl, hc5⟩; (have S5 := Sk.next hc5 (by first | exact S4k | exact S4k.alloc _)); (have S5k := S5); (have T5 := Two.next hc5 (by first | exact T4.drew | exact T4.drew.alloc _ | exact T4 | exact T4.alloc _)); obtain ⟨q50, q51, q52, q53, q54, q55⟩ := S5; (have ne5a : ¬ k = w5.heap.size := by omega); (have ne5b : ¬ k + 1 = w5.heap.size := by omega); (have r50 := fun o => (S5k.alloc o).p0); (have r51 := fun o => (S5k.alloc o).p1); (have r52 := fun o => (S5k.alloc o).p2); (have r53 := fun o => (S5k.alloc o).p3); (try (have y5 : w5.heap[wc.heap.size]? = some (.cells #[.int .u32 0, .int .u32 0] 25 (0, 0)) := (hc5.block wc.heap.size (lt_of_block y4)).trans y4; obtain ⟨⟨y5a, y5b⟩, y5c, y5d⟩ := blk2 y5)); (try (have x5 : w5.heap[w4.heap.size]? = some (.cells #[.int .u32 0, .int .u32 0] 25 (0, 0)) := (hc5.block w4.heap.size (by simp; done)).trans (heap_alloc_new _ _); obtain ⟨⟨x5a, x5b⟩, x5c, x5d⟩ := blk2 x5))) | (go_at_call 14; refine ((Hid.out HI) _ ((Hid.out HG).below (Sk.below (by first | exact S5k | exact S5k.alloc _)))).mono ?_; rintro e w6 ⟨rfl, hc6⟩; (have S6 := Sk.next hc6 (by first | exact S5k | exact S5k.alloc _)); (have S6k := S6); (have T6 := Two.next hc6 (by first | exact T5.drew | exact T5.drew.alloc _ | exact T5 | exact T5.alloc _)); obtain ⟨q60, q61, q62, q63, q64, q65⟩ := S6; (have ne6a : ¬ k = w6.heap.size := by omega); (have ne6b : ¬ k + 1 = w6.heap.size := by omega); (try (have y6 : w6.heap[wc.heap.size]? = some (.cells #[.int .u32 0, .int .u32 0] 25 (0, 0)) := (hc6.block wc.heap.size (lt_of_block y5)).trans y5; obtain ⟨⟨y6a, y6b⟩, y6c, y6d⟩ := blk2 y6)); (try (have x6 : w6.heap[w4.heap.size]? = some (.cells #[.int .u32 0, .int .u32 0] 25 (0, 0)) := (hc6.block w4.heap.size (lt_of_block x5)).trans x5; obtain ⟨⟨x6a, x6b⟩, x6c, x6d⟩ := blk2 x6)); (try (have v6 : w6.heap[w5.heap.size]? = some (.cells #[.int .u32 0, .int .u32 0] 25 (0, 0)) := (hc6.block w5.heap.size (by simp; done)).trans (heap_alloc_new _ _); obtain ⟨⟨v6a, v6b⟩, v6c, v6d⟩ := blk2 v6))))
      all_goals go_wp2
      all_goals go_meet
      all_goals first | exact ⟨_, rfl, two_new w6 P Q, T6.alloc _, (S6k.alloc _).below⟩ | exact ⟨_, rfl, two_set v6, T6.set (by have := T5.lt; omega) _ _, (S6k.set S5k.lt _ _ S5k.below.size).below⟩ | exact ⟨_, rfl, two_set x6, T6.set (by have := T4.lt; omega) _ _, (S6k.set S4k.lt _ _ S4k.below.size).below⟩ | exact ⟨_, rfl, two_set y6, T6.set (by have := TC.lt; omega) _ _, (S6k.set SC.lt _ _ SC.below.size).below⟩
    case rest =>
      obtain ⟨c, rfl, T7, T8, BE⟩ := hcut
      obtain ⟨x0, x1, _⟩ := T7
      obtain ⟨x2, x3, _⟩ := T8
      go_wp2_with (go_at_call 12; refine (eq12 P Q _).mono ?_; rintro e w7 ⟨rfl, hc7⟩; (have BF := BE.trans (hc7.mono BE.size)))
      go_ret
      exact ⟨rfl, BF⟩
theorem laid_met (os : Os) : laidMet Tryd.prog Rows.fnExactMulCwRow.laid ((laidWorld os).forCall (fun _ _ => 0) ⟨#[], #[.agg #[.int .u32 0, .int .u32 0], .agg #[.int .u32 0, .int .u32 0]], []⟩).memory :=
  laidMet_of_run' 8 (by kernel_rfl) (by kernel_rfl)
set_option maxRecDepth 100000 in
theorem lifted (os : Os) (started : os.Started) (H : Type) (enc : TypeId × Value → H) :
    ReturnsInHanded {} Tryd.checked os 4 .any (fun w args => (Rows.fnExactMulCwSpec.pre enc Tryd.prog Tryd.f4 [] false w args ∧ laidMetH Tryd.prog Rows.fnExactMulCwRow.laid w) ∧ sizedMet enc Tryd.prog Tryd.f4 (OpenSpec.ofChange Rows.fnExactMulCwSpec) false w args)
      (Rows.fnExactMulCwSpec.post enc Tryd.prog Tryd.f4 false true false false) := by
  refine returnsInHanded_of_change_and (C := Tryd.checked) (X := fun w _ => laidMetH Tryd.prog Rows.fnExactMulCwRow.laid w) (fun _ _ _ hh h => h.of_heap hh) own started (by kernel_rfl) Tryd.func4
    (ChangeSpec.witness_at (enc := enc) (C := Tryd.checked) (os := os) (X := fun w _ => laidMetH Tryd.prog Rows.fnExactMulCwRow.laid w) false (laidWorld os) #[.agg #[.int .u32 0, .int .u32 0], .agg #[.int .u32 0, .int .u32 0]] 8 rfl (by kernel_rfl) (by kernel_rfl) (by kernel_rfl) (by kernel_rfl) (by kernel_rfl) (laid_met os)) ?_
  intro W base args ds gs before hval0 hW _ _ hL _
  have hval : ∀ (j : Nat) t v, Tryd.f4.params[j]? = some t → args[j]? = some v → Value.okWide Tryd.prog W .any base t v := hval0
  have hW' := hW
  obtain ⟨p, q, hA0, hV0, rfl, hfz, hnd⟩ := hW
  have hA : DataW.TrodAll enc Tryd.prog W 0 (fun _ => true) true Tryd.f4.params.toList args.toList ds p := hA0
  have hV : DataW.TrodVars enc Tryd.prog W (fun _ => true) ["loop.example/g00053/impl.floatForms"] gs q := hV0
  rw [Tryd.params4] at hA hval
  obtain ⟨v0, vs0, d0, ds0, p0, q0, hargs, rfl, rfl, h0, r0⟩ := trodAll_cons hA
  obtain ⟨v1, vs1, d1, ds1, p1, q1, rfl, rfl, rfl, h1, r1⟩ := trodAll_cons r0
  obtain ⟨rfl, rfl, rfl⟩ := trodAll_nil r1
  obtain rfl : args = #[v0, v1] := by cases args; simp_all
  have k0 := h0
  have k1 := h1
  have lt0 : ∀ x ∈ p0, x.block < W.heap.size := fun x hx => by have := hW'.lt x (by simp [hx]); simpa using this
  have lt1 : ∀ x ∈ p1, x.block < W.heap.size := fun x hx => by have := hW'.lt x (by simp [hx]); simpa using this
  obtain ⟨c0, c1, y0, y1, m, rfl, rfl, rfl, hy0, hy1⟩ := Joins.open_agg2 Tryd.underlying24 (by kernel_rfl) cells24 (hval 0 24 v0 rfl rfl) h0
  obtain ⟨c2, c3, y2, y3, m2, rfl, rfl, rfl, hy2, hy3⟩ := Joins.open_agg2 Tryd.underlying24 (by kernel_rfl) cells24 (hval 1 24 v1 rfl rfl) h1
  obtain ⟨a0, e0, _, wf0⟩ := DataW.trod_int Tryd.underlying22 hy0
  obtain ⟨a1, e1, _, wf1⟩ := DataW.trod_int Tryd.underlying22 hy1
  obtain ⟨b0, e2, _, wf2⟩ := DataW.trod_int Tryd.underlying22 hy2
  obtain ⟨b1, e3, _, wf3⟩ := DataW.trod_int Tryd.underlying22 hy3
  simp only [List.cons.injEq, and_true] at e0 e1 e2 e3
  subst e0 e1 e2 e3
  have w0 := bounds_u32 wf0
  have w1 := bounds_u32 wf1
  have w2 := bounds_u32 wf2
  have w3 := bounds_u32 wf3
  obtain ⟨g, t, cs, fuel, d, p', rfl, hg, ht, hvar, hd, rfl⟩ := trodVars_one hV
  obtain rfl := Option.some.inj (gTab.symm.trans hg)
  obtain rfl := Option.some.inj (gTabType.symm.trans ht)
  obtain rfl : cs = cells8 := Option.some.inj (hvar.symm.trans (cells_of_laid hL))
  obtain ⟨rfl, rfl⟩ := DataW.Trod.unique (v := .agg cells8) ⟨fuel, hd⟩ ⟨4, reads_table enc W _⟩
  clear hA0 hV0 hval0
  refine (walk a0 a1 b0 b1 (by omega) (by omega) (by omega) (by omega) (by omega) (by omega) (by omega) (by omega) W (forms_of_laid hL)).mono fun e W' ⟨he, bel⟩ => ?_
  subst he
  have hv' : W'.var? Tryd.prog "loop.example/g00053/impl.floatForms" = some cells8 := var?_below bel gTab (forms_of_laid hL).pos hvar
  have arg0 := Below.trod laidOut (by kernel_rfl) (of_decide_eq_true (by kernel_rfl)) k0 bel lt0
  have arg1 := Below.trod laidOut (by kernel_rfl) (of_decide_eq_true (by kernel_rfl)) k1 bel lt1
  exact ⟨_, rfl, _, _, _, [], _, MemPlace.row ⟨0, 0, none⟩ cells8.size ++ [] ++ [], hW', trodAll_cons_mk (shut_bool Tryd.underlying4 _) trodAll_mk0, trodAll_cons_mk arg0 (trodAll_cons_mk arg1 trodAll_mk0), ⟨0, 76, cells8, 4, [], [], hg, ht, hv', reads_table enc W' _, rfl, rfl⟩, bel.frame _, fun h => by cases h⟩
theorem said : Rows.FnExactMulCwSaid :=
  OpenClaim.holds_of_wide 4 Tryd.f4 rfl rfl rfl rfl rfl rfl rfl ⟨rfl, rfl, rfl, rfl, rfl⟩ rfl rfl rfl rfl rfl (by kernel_rfl) Tryd.func4 (by kernel_rfl)
    (of_decide_eq_true (by kernel_rfl)) (by unfold Func.isWrapper; first | (rw [if_pos (by decide +kernel)]; kernel_rfl) | (rw [if_neg (by decide +kernel)]; exact ⟨rfl, rfl⟩))
    (fun os started H enc _ => lifted os started H enc)
theorem plain (f : FuncId) (fn : Func) (hf : Tryd.pinned.checked.prog.funcNamed "loop.example/g00053/laws.FnExactMulCw" = some f) (hfn : Tryd.pinned.checked.prog.funcs[f]? = some fn) :
    false = Tryd.pinned.checked.prog.looks [] ∧ ∀ (j : Nat) t, fn.params[j]? = some t → Tryd.pinned.checked.prog.wantsStandIn t = false := by
  obtain rfl : f = 4 := Option.some.inj ((show Tryd.prog.funcNamed "loop.example/g00053/laws.FnExactMulCw" = some 4 by kernel_rfl).symm.trans hf) |>.symm
  obtain rfl : fn = Tryd.f4 := (Option.some.inj (Tryd.func4.symm.trans hfn)).symm
  refine ⟨by kernel_rfl, fun j t ht => ?_⟩
  rw [Tryd.params4] at ht
  obtain rfl : t = 24 := by simpa using Array.mem_of_getElem? ht
  exact (show Tryd.prog.wantsStandIn 24 = false by kernel_rfl)
theorem card : Rows.FnExactMulCwCardSaid :=
  Claim7.holds_tied_plain_at .later [] _ _ _ _ said (fun _ h => by cases h) (by kernel_rfl) (fun _ h => by cases h) fnExactMulCw_row_tie rfl ⟨rfl, rfl⟩ (by kernel_rfl) rfl plain (by kernel_rfl)
end Go.Proofs.YtlcfpcapefeajaaDoor.fnExactMulCw
namespace Go.Proofs.YtlcfpcapefeajaaDoor
theorem mul_cw_holds : Rows.FnExactMulCwCardSaid := fnExactMulCw.card
#print axioms mul_cw_holds
end Go.Proofs.YtlcfpcapefeajaaDoor
