/- Unpacked colors of both sides; UnpackColor of both sides. -/
import Derived.Test.YthkngcdfnemhaaaAy
import Derived.BigQuiet
import Derived.BigRegion
namespace Go.Proofs.Ythkngcdfnemhaaa
open Go.ChangeShapes Go.WideShapes Go.ChangeAt Go.RowKit
set_option linter.unusedVariables false
theorem b2_ {w : World} {o1 o2 : Obj} : Below w.heap.size w ((w.alloc o1).alloc o2) := b2
theorem i64_or_nat (a b : Nat) (ha : a < 4294967296) (hb : b < 4294967296) : bits .or .i64 (a : Int) (b : Int) = ((a ||| b : Nat) : Int) := by
  have hx : a ||| b < 2 ^ 32 := Nat.or_lt_two_pow (by omega) (by omega)
  show IntKind.i64.wrap ((BitVec.ofInt 64 (a : Int) ||| BitVec.ofInt 64 (b : Int)).toNat : Int) = _
  rw [BitVec.toNat_or, ofInt_u64 a (by omega), ofInt_u64 b (by omega), IntKind.wrap_i64]
  omega
theorem or_lowI (k : Nat) (x y : Int) (x0 : 0 ≤ x) (x1 : x < 2 ^ k) (y0 : 0 ≤ y) (h : x + y * 2 ^ k < 4294967296) : bits .or .i64 x (y * 2 ^ k) = x + y * 2 ^ k := by
  obtain ⟨a, rfl⟩ := Int.eq_ofNat_of_zero_le x0
  obtain ⟨b, rfl⟩ := Int.eq_ofNat_of_zero_le y0
  have e : ((b : Int) * 2 ^ k) = ((b * 2 ^ k : Nat) : Int) := by push_cast; rfl
  have x1' : a < 2 ^ k := by exact_mod_cast x1
  rw [e] at h ⊢
  have hb : b * 2 ^ k < 4294967296 := by omega
  rw [i64_or_nat a (b * 2 ^ k) (by omega) hb, Nat.or_comm, Nat.mul_comm, ← Nat.two_pow_add_eq_or_of_lt x1' b, Nat.add_comm]
  push_cast
  rfl
theorem i64_or8 (x y : Int) (x0 : 0 ≤ x) (x1 : x ≤ 255) (y0 : 0 ≤ y) (y1 : y ≤ 255) : bits .or .i64 x (y * 256) = x + 256 * y := by
  have e : (2 : Int) ^ 8 = 256 := by decide
  have h := or_lowI 8 x y x0 (by rw [e]; omega) y0 (by rw [e]; omega)
  rw [e] at h
  rw [h]
  omega
theorem i64_and255 (n : Int) (h0 : -9223372036854775808 ≤ n) (h1 : n ≤ 9223372036854775807) : bits .and .i64 n 255 = n % 256 := by
  show IntKind.i64.wrap ((BitVec.ofInt 64 n &&& BitVec.ofInt 64 255).toNat : Int) = _
  have e : (BitVec.ofInt 64 255).toNat = 2 ^ 8 - 1 := by decide
  rw [BitVec.toNat_and, e, Nat.and_two_pow_sub_one_eq_mod, BitVec.toNat_ofInt, IntKind.wrap_i64]
  omega
/-- A slice of n bytes, x, wherever it lies. -/
def Bs8 (w : World) (v : Value) (n : Nat) (x : Nat → Int) : Prop := ∃ q o c, v = .slice (some ⟨q, o, none⟩) n c ∧ (∀ i, i < n → w.cell? ⟨q, o + i, none⟩ = some (.int .u8 (x i))) ∧ ∀ i, i < n → 0 ≤ x i ∧ x i ≤ 255
theorem Bs8.next {w w' : World} {v : Value} {n : Nat} {x : Nat → Int} (h : Bs8 w v n x) (b : Below w.heap.size w w') : Bs8 w' v n x := by
  obtain ⟨q, o, c, rfl, h1, h2⟩ := h
  exact ⟨q, o, c, rfl, fun i hi => cell_nx (h1 i hi) b, h2⟩
set_option maxHeartbeats 2000000 in
theorem size44 (f : Int) (w : World) : Calls Try.prog 44 #[.int .i64 f] w fun e w' => e = .returned (.int .i64 (szF f)) ∧ w' = w := by
  by_cases h1 : f = 1
  · subst h1
    go_enter Try.func44, Try.ntmps44
    go_wp2
    go_ret
    exact ⟨rfl, rfl⟩
  by_cases h2 : f = 2
  · subst h2
    go_enter Try.func44, Try.ntmps44
    go_wp2
    go_ret
    exact ⟨rfl, rfl⟩
  by_cases h3 : f = 3
  · subst h3
    go_enter Try.func44, Try.ntmps44
    go_wp2
    go_ret
    exact ⟨rfl, rfl⟩
  have hs : szF f = 0 := by unfold szF; rw [if_neg h1, if_neg h2, if_neg h3]
  rw [hs]
  clear hs
  go_enter Try.func44, Try.ntmps44
  go_wp2
  go_ret
  exact ⟨rfl, rfl⟩
theorem size_g (w : World) : Calls Try.prog 106 #[.agg #[]] w fun e w' => e = .returned (.int .i64 1) ∧ Below w.heap.size w w' := by
  go_enter Try.func106, Try.ntmps106
  go_wp2
  go_ret
  exact ⟨rfl, alloc_b⟩
theorem size_f (w : World) : Calls Try.prog 110 #[.agg #[]] w fun e w' => e = .returned (.int .i64 4) ∧ Below w.heap.size w w' := by
  go_enter Try.func110, Try.ntmps110
  go_wp2
  go_ret
  exact ⟨rfl, alloc_b⟩
theorem size_s (w : World) : Calls Try.prog 113 #[.agg #[]] w fun e w' => e = .returned (.int .i64 2) ∧ Below w.heap.size w w' := by
  go_enter Try.func113, Try.ntmps113
  go_wp2
  go_ret
  exact ⟨rfl, alloc_b⟩

set_option maxHeartbeats 4000000 in
theorem unp45 (f : Int) (v : Value) (x : Nat → Int) (w : World) (hf : f = 1 ∨ f = 2 ∨ f = 3) (X : Bs8 w v (szF f) x) : Calls Try.prog 45 #[.int .i64 f, v] w fun e w' => e = .returned (.agg #[.int .i64 (u0 f x), .int .i64 (u1 f x), .int .i64 (u2 f x), .int .i64 (u3 f x)]) ∧ Below w.heap.size w w' := by
  obtain ⟨q, o, c, rfl, h1, h2⟩ := X
  rcases hf with rfl | rfl | rfl
  · have c0 : w.cell? ⟨q, o, none⟩ = some (.int .u8 (x 0)) := h1 0 (by decide)
    obtain ⟨a0, a1⟩ := h2 0 (by decide)
    show Calls _ _ #[.int .i64 1, .slice _ 1 c] _ fun e w' => e = .returned (.agg #[.int .i64 (x 0), .int .i64 (x 0), .int .i64 (x 0), .int .i64 255]) ∧ _
    have hq : q < w.heap.size := World.block_lt_of_cell? _ _ c0
    clear h1 h2
    generalize x 0 = x0 at *
    go_enter Try.func45, Try.ntmps45
    go_wp2
    exact bodyPost_ret (v := .agg #[.int .i64 x0, .int .i64 x0, .int .i64 x0, .int .i64 255]) (by simp [results, Try.results45, go_sem]) rfl ⟨rfl, alloc_b⟩
  · have c0 : w.cell? ⟨q, o, none⟩ = some (.int .u8 (x 0)) := h1 0 (by decide)
    have c1 : w.cell? ⟨q, o + 1, none⟩ = some (.int .u8 (x 1)) := h1 1 (by decide)
    have c2 : w.cell? ⟨q, o + 2, none⟩ = some (.int .u8 (x 2)) := h1 2 (by decide)
    have c3 : w.cell? ⟨q, o + 3, none⟩ = some (.int .u8 (x 3)) := h1 3 (by decide)
    obtain ⟨a0, a1⟩ := h2 0 (by decide)
    obtain ⟨b0, b1⟩ := h2 1 (by decide)
    obtain ⟨d0, d1⟩ := h2 2 (by decide)
    obtain ⟨e0, e1⟩ := h2 3 (by decide)
    show Calls _ _ #[.int .i64 2, .slice _ 4 c] _ fun e w' => e = .returned (.agg #[.int .i64 (x 0), .int .i64 (x 1), .int .i64 (x 2), .int .i64 (x 3)]) ∧ _
    have hq : q < w.heap.size := World.block_lt_of_cell? _ _ c0
    clear h1 h2
    generalize x 0 = x0 at *
    generalize x 1 = x1 at *
    generalize x 2 = x2 at *
    generalize x 3 = x3 at *
    go_enter Try.func45, Try.ntmps45
    go_wp2
    go_region
    go_wp2
    exact bodyPost_ret (v := .agg #[.int .i64 x0, .int .i64 x1, .int .i64 x2, .int .i64 x3]) (by simp [results, Try.results45, go_sem]) rfl ⟨rfl, below_drew alloc_b⟩
  · have c0 : w.cell? ⟨q, o, none⟩ = some (.int .u8 (x 0)) := h1 0 (by decide)
    have c1 : w.cell? ⟨q, o + 1, none⟩ = some (.int .u8 (x 1)) := h1 1 (by decide)
    obtain ⟨a0, a1⟩ := h2 0 (by decide)
    obtain ⟨b0, b1⟩ := h2 1 (by decide)
    show Calls _ _ #[.int .i64 3, .slice _ 2 c] _ fun e w' => e = .returned (.agg #[.int .i64 ((un x / 2048 * 255 + 15) / 31), .int .i64 ((un x / 32 % 64 * 255 + 31) / 63), .int .i64 ((un x % 32 * 255 + 15) / 31), .int .i64 255]) ∧ _
    have hq : q < w.heap.size := World.block_lt_of_cell? _ _ c0
    clear h1 h2
    unfold un
    generalize x 0 = x0 at *
    generalize x 1 = x1 at *
    go_enter Try.func45, Try.ntmps45
    go_wp2
    go_quiet (fail)
    go_wp2
    have F0 := (((((C4.new w 25 (.int .i64 0) (.int .i64 0) (.int .i64 0) (.int .i64 0)).next (below_drewN (Below.refl _ _) nq)).s0 (.int .i64 (((x0 + 256 * x1) / 2048 * 255 + 15) / 31))).s1 (.int .i64 (((x0 + 256 * x1) / 32 % 64 * 255 + 31) / 63))).s2 (.int .i64 (((x0 + 256 * x1) % 32 * 255 + 15) / 31))).s3 (.int .i64 (255))
    have BN := ((((below_drewN (alloc_b (v := w) (o := .cells #[.int .i64 0, .int .i64 0, .int .i64 0, .int .i64 0] 25)) nq).setCell (p := ⟨w.heap.size, 0, none⟩) (Nat.le_refl _) (.int .i64 (((x0 + 256 * x1) / 2048 * 255 + 15) / 31))).setCell (p := ⟨w.heap.size, 1, none⟩) (Nat.le_refl _) (.int .i64 (((x0 + 256 * x1) / 32 % 64 * 255 + 31) / 63))).setCell (p := ⟨w.heap.size, 2, none⟩) (Nat.le_refl _) (.int .i64 (((x0 + 256 * x1) % 32 * 255 + 15) / 31))).setCell (p := ⟨w.heap.size, 3, none⟩) (Nat.le_refl _) (.int .i64 (255))
    have r0 := F0.c0
    have r1 := F0.c1
    have r2 := F0.c2
    have r3 := F0.c3
    exact bodyPost_ret (v := .agg #[.int .i64 (((x0 + 256 * x1) / 2048 * 255 + 15) / 31), .int .i64 (((x0 + 256 * x1) / 32 % 64 * 255 + 31) / 63), .int .i64 (((x0 + 256 * x1) % 32 * 255 + 15) / 31), .int .i64 (255)]) (by simp [results, Try.results45, go_sem, r0, r1, r2, r3]) rfl ⟨rfl, BN⟩
set_option maxHeartbeats 4000000 in
theorem unp106 (v : Value) (x : Nat → Int) (w : World) (X : Bs8 w v 1 x) : Calls Try.prog 107 #[.agg #[], v] w fun e w' => e = .returned (.agg #[.int .i64 (x 0), .int .i64 (x 0), .int .i64 (x 0), .int .i64 0]) ∧ Below w.heap.size w w' := by
  obtain ⟨q, o, c, rfl, h1, h2⟩ := X
  have c0 : w.cell? ⟨q, o, none⟩ = some (.int .u8 (x 0)) := h1 0 (by decide)
  obtain ⟨a0, b0⟩ := h2 0 (by decide)
  have hq : q < w.heap.size := World.block_lt_of_cell? _ _ c0
  clear h1 h2
  generalize x 0 = x0 at *
  go_enter Try.func107, Try.ntmps107
  go_wp2
  exact bodyPost_ret (v := .agg #[.int .i64 x0, .int .i64 x0, .int .i64 x0, .int .i64 0]) (by simp [results, Try.results107, go_sem]) rfl ⟨rfl, b2_⟩
set_option maxHeartbeats 4000000 in
theorem unp110 (v : Value) (x : Nat → Int) (w : World) (X : Bs8 w v 4 x) : Calls Try.prog 111 #[.agg #[], v] w fun e w' => e = .returned (.agg #[.int .i64 (x 0), .int .i64 (x 1), .int .i64 (x 2), .int .i64 0]) ∧ Below w.heap.size w w' := by
  obtain ⟨q, o, c, rfl, h1, h2⟩ := X
  have c0 : w.cell? ⟨q, o, none⟩ = some (.int .u8 (x 0)) := h1 0 (by decide)
  obtain ⟨a0, b0⟩ := h2 0 (by decide)
  have c1 : w.cell? ⟨q, o + 1, none⟩ = some (.int .u8 (x 1)) := h1 1 (by decide)
  obtain ⟨a1, b1⟩ := h2 1 (by decide)
  have c2 : w.cell? ⟨q, o + 2, none⟩ = some (.int .u8 (x 2)) := h1 2 (by decide)
  obtain ⟨a2, b2⟩ := h2 2 (by decide)
  have hq : q < w.heap.size := World.block_lt_of_cell? _ _ c0
  clear h1 h2
  generalize x 0 = x0 at *
  generalize x 1 = x1 at *
  generalize x 2 = x2 at *
  go_enter Try.func111, Try.ntmps111
  go_wp2
  go_region
  go_wp2
  exact bodyPost_ret (v := .agg #[.int .i64 x0, .int .i64 x1, .int .i64 x2, .int .i64 0]) (by simp [results, Try.results111, go_sem]) rfl ⟨rfl, below_drew b2_⟩
theorem alp107 (v : Value) (x : Nat → Int) (w : World) (X : Bs8 w v 4 x) : Calls Try.prog 108 #[.agg #[], v] w fun e w' => e = .returned (.int .i64 (x 3)) ∧ Below w.heap.size w w' := by
  obtain ⟨q, o, c, rfl, h1, h2⟩ := X
  have c0 : w.cell? ⟨q, o, none⟩ = some (.int .u8 (x 0)) := h1 0 (by decide)
  obtain ⟨a0, b0⟩ := h2 0 (by decide)
  have c1 : w.cell? ⟨q, o + 1, none⟩ = some (.int .u8 (x 1)) := h1 1 (by decide)
  obtain ⟨a1, b1⟩ := h2 1 (by decide)
  have c2 : w.cell? ⟨q, o + 2, none⟩ = some (.int .u8 (x 2)) := h1 2 (by decide)
  obtain ⟨a2, b2⟩ := h2 2 (by decide)
  have c3 : w.cell? ⟨q, o + 3, none⟩ = some (.int .u8 (x 3)) := h1 3 (by decide)
  obtain ⟨a3, b3⟩ := h2 3 (by decide)
  have hq : q < w.heap.size := World.block_lt_of_cell? _ _ c0
  clear h1 h2
  generalize x 0 = x0 at *
  generalize x 1 = x1 at *
  generalize x 2 = x2 at *
  generalize x 3 = x3 at *
  go_enter Try.func108, Try.ntmps108
  go_wp2
  go_ret
  exact ⟨rfl, alloc_b⟩
set_option maxHeartbeats 4000000 in
theorem unp113 (v : Value) (x : Nat → Int) (w : World) (X : Bs8 w v 2 x) : Calls Try.prog 114 #[.agg #[], v] w fun e w' => e = .returned (.agg #[.int .i64 ((un x / 2048 * 255 + 15) / 31), .int .i64 ((un x / 32 % 64 * 255 + 31) / 63), .int .i64 ((un x % 32 * 255 + 15) / 31), .int .i64 0]) ∧ Below w.heap.size w w' := by
  obtain ⟨q, o, c, rfl, h1, h2⟩ := X
  have c0 : w.cell? ⟨q, o, none⟩ = some (.int .u8 (x 0)) := h1 0 (by decide)
  obtain ⟨a0, b0⟩ := h2 0 (by decide)
  have c1 : w.cell? ⟨q, o + 1, none⟩ = some (.int .u8 (x 1)) := h1 1 (by decide)
  obtain ⟨a1, b1⟩ := h2 1 (by decide)
  have hq : q < w.heap.size := World.block_lt_of_cell? _ _ c0
  clear h1 h2
  unfold un
  generalize x 0 = x0 at *
  generalize x 1 = x1 at *
  have hor := i64_or8 x0 x1 a0 b0 a1 b1
  have HR : Hid (∀ w : World, Calls Try.prog 115 #[.int .i64 ((x0 + 256 * x1) / 2048), .int .i64 31, .int .i64 255] w fun e w' => e = .returned (.int .i64 (((x0 + 256 * x1) / 2048 * 255 + 15) / 31)) ∧ w' = w) := fun w => resc114 _ 31 255 w (by omega) (by omega) (Or.inr (Or.inr (Or.inl ⟨rfl, rfl⟩)))
  have HG : Hid (∀ w : World, Calls Try.prog 115 #[.int .i64 ((x0 + 256 * x1) % 2048 / 32), .int .i64 63, .int .i64 255] w fun e w' => e = .returned (.int .i64 (((x0 + 256 * x1) / 32 % 64 * 255 + 31) / 63)) ∧ w' = w) := fun w => by
    have h := resc114 ((x0 + 256 * x1) % 2048 / 32) 63 255 w (by omega) (by omega) (Or.inr (Or.inr (Or.inr ⟨rfl, rfl⟩)))
    rwa [show (x0 + 256 * x1) % 2048 / 32 * 255 + 63 / 2 = (x0 + 256 * x1) / 32 % 64 * 255 + 31 by omega] at h
  have HB : Hid (∀ w : World, Calls Try.prog 115 #[.int .i64 ((x0 + 256 * x1) % 32), .int .i64 31, .int .i64 255] w fun e w' => e = .returned (.int .i64 (((x0 + 256 * x1) % 32 * 255 + 15) / 31)) ∧ w' = w) := fun w => resc114 _ 31 255 w (by omega) (by omega) (Or.inr (Or.inr (Or.inl ⟨rfl, rfl⟩)))
  go_enter Try.func114, Try.ntmps114
  go_wp2
  go_region
  go_wp2_with (first | (go_at_call 115; (with_reducible show Calls Try.prog 115 #[.int .i64 ((x0 + 256 * x1) / 2048), .int .i64 31, .int .i64 255] _ _); refine (HR.out _).mono ?_; rintro e w2 ⟨rfl, hw⟩; subst w2) | (go_at_call 115; (with_reducible show Calls Try.prog 115 #[.int .i64 ((x0 + 256 * x1) % 2048 / 32), .int .i64 63, .int .i64 255] _ _); refine (HG.out _).mono ?_; rintro e w2 ⟨rfl, hw⟩; subst w2) | (go_at_call 115; (with_reducible show Calls Try.prog 115 #[.int .i64 ((x0 + 256 * x1) % 32), .int .i64 31, .int .i64 255] _ _); refine (HB.out _).mono ?_; rintro e w2 ⟨rfl, hw⟩; subst w2))
  exact bodyPost_ret (v := .agg #[.int .i64 (((x0 + 256 * x1) / 2048 * 255 + 15) / 31), .int .i64 (((x0 + 256 * x1) / 32 % 64 * 255 + 31) / 63), .int .i64 (((x0 + 256 * x1) % 32 * 255 + 15) / 31), .int .i64 0]) (by simp [results, Try.results114, go_sem]) rfl ⟨rfl, below_drew b2_⟩
theorem missing_some (want : Array (String × TypeId)) (got : Array Method) (s : String) (h : ((want.toList.filter fun (x : String × TypeId) => !got.any fun m => m.name == x.1 && m.sig == x.2).map (fun x => x.1)) = [s]) : ∃ m, Instr.missingMethod want got = some m := by
  have h' : ((want.toList.filter fun (name, sig) => !got.any fun m => m.name == name && m.sig == sig).map (·.1)) = [s] := h
  unfold Instr.missingMethod
  rw [h']
  cases hc : s.contains (Char.ofNat 46)
  · simp [List.partition, List.partition.loop, hc, Instr.least]
  · simp [List.partition, List.partition.loop, hc, Instr.least]
theorem miss_98 : ∃ m, Instr.missingMethod #[("loop.example/g00053/impl.alpha", 105), ("loop.example/g00053/impl.pack", 65), ("loop.example/g00053/impl.size", 68), ("loop.example/g00053/impl.unpack", 101)] Try.t98.methods = some m := missing_some _ _ "loop.example/g00053/impl.alpha" (by kernel_rfl)
theorem assert_98 (w : World) : (Instr.typeAssert (.iface 98 (.agg #[])) 62 103 true).run Try.prog w = .ok (.tuple #[.nilIface, .bool false]) w := by
  obtain ⟨m, hm⟩ := miss_98
  unfold Instr.typeAssert
  simp [go_sem, hm]
theorem miss_100 : ∃ m, Instr.missingMethod #[("loop.example/g00053/impl.alpha", 105), ("loop.example/g00053/impl.pack", 65), ("loop.example/g00053/impl.size", 68), ("loop.example/g00053/impl.unpack", 101)] Try.t100.methods = some m := missing_some _ _ "loop.example/g00053/impl.alpha" (by kernel_rfl)
theorem assert_100 (w : World) : (Instr.typeAssert (.iface 100 (.agg #[])) 62 103 true).run Try.prog w = .ok (.tuple #[.nilIface, .bool false]) w := by
  obtain ⟨m, hm⟩ := miss_100
  unfold Instr.typeAssert
  simp [go_sem, hm]
set_option maxHeartbeats 4000000 in
theorem unp46 (f : Int) (v : Value) (x : Nat → Int) (w : World) (hf : f = 1 ∨ f = 2 ∨ f = 3) (X : Bs8 w v (szF f) x) : Calls Try.prog 46 #[fmV f, v] w fun e w' => e = .returned (.agg #[.int .i64 (u0 f x), .int .i64 (u1 f x), .int .i64 (u2 f x), .int .i64 (u3 f x)]) ∧ Below w.heap.size w w' := by
  rcases hf with rfl | rfl | rfl
  · have hm : ∀ w : World, (method 233 98 (Value.agg #[]) "loop.example/g00053/impl.unpack").run Try.prog w = .ok (107, .agg #[]) w := fun w => by kernel_rfl
    have hta : ∀ w : World, (Instr.typeAssert (.iface 98 (.agg #[])) 62 103 true).run Try.prog w = .ok (.tuple #[.nilIface, .bool false]) w := fun w => assert_98 w
    have HU : Hid (∀ w' : World, Below w.heap.size w w' → Calls Try.prog 107 #[.agg #[], v] w' fun e w'' => e = .returned (.agg #[.int .i64 (x 0), .int .i64 (x 0), .int .i64 (x 0), .int .i64 0]) ∧ Below w'.heap.size w' w'') := fun w' b => unp106 v x w' (X.next b)
    have HX := Hid.mk X
    obtain ⟨a, n, c', hv2⟩ : ∃ a n c', v = .slice a n c' := by obtain ⟨q, o, c, hv, _⟩ := X; exact ⟨_, _, _, hv⟩
    clear X
    show Calls _ _ #[.iface 98 (.agg #[]), v] _ fun e w' => e = .returned (.agg #[.int .i64 (x 0), .int .i64 (x 0), .int .i64 (x 0), .int .i64 255]) ∧ _
    subst hv2
    go_enter Try.func46, Try.ntmps46
    go_wp2_with (go_at_call 107; refine (HU.out _ alloc_b).mono ?_; rintro e w2 ⟨rfl, B2⟩; (have C2 := (C4.new w 25 (.int .i64 0) (.int .i64 0) (.int .i64 0) (.int .i64 0)).next B2); (have D2 : Below w.heap.size w w2 := alloc_b.trans (B2.mono (by simp))); (have q0 := C2.c0); (have q1 := C2.c1); (have q2 := C2.c2); (have q3 := C2.c3); (have qf := C2.f); (have qh := C2.hi))
    clear q0 q1 q2 q3 qf qh hm hta
    have F0 := (C2.put (.int .i64 (x 0)) (.int .i64 (x 0)) (.int .i64 (x 0)) (.int .i64 255)).next (alloc_b (o := (.cells #[.int .i64 (x 0), .int .i64 (x 0), .int .i64 (x 0), .int .i64 255] 25)))
    have BS : Below w.heap.size w (set4 w2 w.heap.size (.int .i64 (x 0)) (.int .i64 (x 0)) (.int .i64 (x 0)) (.int .i64 255)) := D2.trans ((only_set4 _ _ _ _ _ _).below (Nat.le_refl _) D2.size)
    have BN : Below w.heap.size w ((set4 w2 w.heap.size (.int .i64 (x 0)) (.int .i64 (x 0)) (.int .i64 (x 0)) (.int .i64 255)).alloc (.cells #[.int .i64 (x 0), .int .i64 (x 0), .int .i64 (x 0), .int .i64 255] 25)) := BS.alloc BS.size _
    clear BS
    unfold set4 at F0 BN
    have r0 := F0.c0
    have r1 := F0.c1
    have r2 := F0.c2
    have r3 := F0.c3
    clear F0
    exact bodyPost_ret (v := .agg #[.int .i64 (x 0), .int .i64 (x 0), .int .i64 (x 0), .int .i64 255]) (by simp [results, Try.results46, go_sem, r0, r1, r2, r3]) rfl ⟨rfl, BN⟩
  · have hm : ∀ w : World, (method 233 99 (Value.agg #[]) "loop.example/g00053/impl.unpack").run Try.prog w = .ok (111, .agg #[]) w := fun w => by kernel_rfl
    have hm2 : ∀ w : World, (method 233 99 (Value.agg #[]) "loop.example/g00053/impl.alpha").run Try.prog w = .ok (108, .agg #[]) w := fun w => by kernel_rfl
    have hta : ∀ w : World, (Instr.typeAssert (.iface 99 (.agg #[])) 62 103 true).run Try.prog w = .ok (.tuple #[.iface 99 (.agg #[]), .bool true]) w := fun w => by kernel_rfl
    have HU : Hid (∀ w' : World, Below w.heap.size w w' → Calls Try.prog 111 #[.agg #[], v] w' fun e w'' => e = .returned (.agg #[.int .i64 (x 0), .int .i64 (x 1), .int .i64 (x 2), .int .i64 0]) ∧ Below w'.heap.size w' w'') := fun w' b => unp110 v x w' (X.next b)
    have HX := Hid.mk X
    obtain ⟨a, n, c', hv2⟩ : ∃ a n c', v = .slice a n c' := by obtain ⟨q, o, c, hv, _⟩ := X; exact ⟨_, _, _, hv⟩
    clear X
    show Calls _ _ #[.iface 99 (.agg #[]), v] _ fun e w' => e = .returned (.agg #[.int .i64 (x 0), .int .i64 (x 1), .int .i64 (x 2), .int .i64 (x 3)]) ∧ _
    subst hv2
    go_enter Try.func46, Try.ntmps46
    have HA : Hid (∀ w' : World, Below w.heap.size w w' → Calls Try.prog 108 #[.agg #[], .slice a n c'] w' fun e w'' => e = .returned (.int .i64 (x 3)) ∧ Below w'.heap.size w' w'') := fun w' b => alp107 _ x w' (HX.out.next b)
    go_wp2_with (first | (go_at_call 111; refine (HU.out _ alloc_b).mono ?_; rintro e w2 ⟨rfl, B2⟩; (have C2 := (C4.new w 25 (.int .i64 0) (.int .i64 0) (.int .i64 0) (.int .i64 0)).next B2); (have D2 : Below w.heap.size w w2 := alloc_b.trans (B2.mono (by simp))); (have q0 := C2.c0); (have q1 := C2.c1); (have q2 := C2.c2); (have q3 := C2.c3); (have qf := C2.f); (have qh := C2.hi)) | (go_at_call 108; refine (HA.out (w2.alloc (.cells #[.int .i64 (x 0), .int .i64 (x 1), .int .i64 (x 2), .int .i64 255] 25)) (D2.alloc D2.size _)).mono ?_; rintro e w3 ⟨rfl, B3⟩; (have G3 := (C4.new w2 25 (.int .i64 (x 0)) (.int .i64 (x 1)) (.int .i64 (x 2)) (.int .i64 255)).next B3); (have E3' := (C2.next (alloc_b (o := (.cells #[.int .i64 (x 0), .int .i64 (x 1), .int .i64 (x 2), .int .i64 255] 25)))).next B3); (have g0 := G3.c0); (have g1 := G3.c1); (have g2 := G3.c2); (have g3 := G3.c3); (have gf := G3.f); (have gh := G3.hi); (have e0 := E3'.c0); (have e1 := E3'.c1); (have e2 := E3'.c2); (have e3 := E3'.c3); (have ef := E3'.f); (have eh := E3'.hi)))
    have D3 : Below w.heap.size w w3 := (D2.alloc D2.size _).trans (B3.mono (Nat.le_trans D2.size (by simp)))
    have E3 : C4 (w3.setCell ⟨w2.heap.size, 3, none⟩ (.int .i64 (x 3))) w.heap.size (.int .i64 0) (.int .i64 0) (.int .i64 0) (.int .i64 0) := E3'.block (((Only.refl w2.heap.size w3).setCell _ _).block _ E3'.hi (by have := C2.hi; omega)) (by simp)
    clear q0 q1 q2 q3 qf qh e0 e1 e2 e3 ef eh g0 g1 g2 g3 gf gh hm hm2 hta
    have F0 := E3.put (.int .i64 (x 0)) (.int .i64 (x 1)) (.int .i64 (x 2)) (.int .i64 (x 3))
    have BN : Below w.heap.size w (set4 (w3.setCell ⟨w2.heap.size, 3, none⟩ (.int .i64 (x 3))) w.heap.size (.int .i64 (x 0)) (.int .i64 (x 1)) (.int .i64 (x 2)) (.int .i64 (x 3))) := (D3.setCell (p := ⟨w2.heap.size, 3, none⟩) (Nat.le_of_lt C2.hi) _).trans ((only_set4 _ _ _ _ _ _).below (Nat.le_refl _) (by have := E3.hi; omega))
    unfold set4 at F0 BN
    have r0 := F0.c0
    have r1 := F0.c1
    have r2 := F0.c2
    have r3 := F0.c3
    clear F0
    exact bodyPost_ret (v := .agg #[.int .i64 (x 0), .int .i64 (x 1), .int .i64 (x 2), .int .i64 (x 3)]) (by simp [results, Try.results46, go_sem, r0, r1, r2, r3]) rfl ⟨rfl, BN⟩
  · have hm : ∀ w : World, (method 233 100 (Value.agg #[]) "loop.example/g00053/impl.unpack").run Try.prog w = .ok (114, .agg #[]) w := fun w => by kernel_rfl
    have hta : ∀ w : World, (Instr.typeAssert (.iface 100 (.agg #[])) 62 103 true).run Try.prog w = .ok (.tuple #[.nilIface, .bool false]) w := fun w => assert_100 w
    have HU : Hid (∀ w' : World, Below w.heap.size w w' → Calls Try.prog 114 #[.agg #[], v] w' fun e w'' => e = .returned (.agg #[.int .i64 ((un x / 2048 * 255 + 15) / 31), .int .i64 ((un x / 32 % 64 * 255 + 31) / 63), .int .i64 ((un x % 32 * 255 + 15) / 31), .int .i64 0]) ∧ Below w'.heap.size w' w'') := fun w' b => unp113 v x w' (X.next b)
    have HX := Hid.mk X
    obtain ⟨a, n, c', hv2⟩ : ∃ a n c', v = .slice a n c' := by obtain ⟨q, o, c, hv, _⟩ := X; exact ⟨_, _, _, hv⟩
    clear X
    show Calls _ _ #[.iface 100 (.agg #[]), v] _ fun e w' => e = .returned (.agg #[.int .i64 ((un x / 2048 * 255 + 15) / 31), .int .i64 ((un x / 32 % 64 * 255 + 31) / 63), .int .i64 ((un x % 32 * 255 + 15) / 31), .int .i64 255]) ∧ _
    subst hv2
    go_enter Try.func46, Try.ntmps46
    go_wp2_with (go_at_call 114; refine (HU.out _ alloc_b).mono ?_; rintro e w2 ⟨rfl, B2⟩; (have C2 := (C4.new w 25 (.int .i64 0) (.int .i64 0) (.int .i64 0) (.int .i64 0)).next B2); (have D2 : Below w.heap.size w w2 := alloc_b.trans (B2.mono (by simp))); (have q0 := C2.c0); (have q1 := C2.c1); (have q2 := C2.c2); (have q3 := C2.c3); (have qf := C2.f); (have qh := C2.hi))
    clear q0 q1 q2 q3 qf qh hm hta
    have F0 := (C2.put (.int .i64 ((un x / 2048 * 255 + 15) / 31)) (.int .i64 ((un x / 32 % 64 * 255 + 31) / 63)) (.int .i64 ((un x % 32 * 255 + 15) / 31)) (.int .i64 255)).next (alloc_b (o := (.cells #[.int .i64 ((un x / 2048 * 255 + 15) / 31), .int .i64 ((un x / 32 % 64 * 255 + 31) / 63), .int .i64 ((un x % 32 * 255 + 15) / 31), .int .i64 255] 25)))
    have BS : Below w.heap.size w (set4 w2 w.heap.size (.int .i64 ((un x / 2048 * 255 + 15) / 31)) (.int .i64 ((un x / 32 % 64 * 255 + 31) / 63)) (.int .i64 ((un x % 32 * 255 + 15) / 31)) (.int .i64 255)) := D2.trans ((only_set4 _ _ _ _ _ _).below (Nat.le_refl _) D2.size)
    have BN : Below w.heap.size w ((set4 w2 w.heap.size (.int .i64 ((un x / 2048 * 255 + 15) / 31)) (.int .i64 ((un x / 32 % 64 * 255 + 31) / 63)) (.int .i64 ((un x % 32 * 255 + 15) / 31)) (.int .i64 255)).alloc (.cells #[.int .i64 ((un x / 2048 * 255 + 15) / 31), .int .i64 ((un x / 32 % 64 * 255 + 31) / 63), .int .i64 ((un x % 32 * 255 + 15) / 31), .int .i64 255] 25)) := BS.alloc BS.size _
    clear BS
    unfold set4 at F0 BN
    have r0 := F0.c0
    have r1 := F0.c1
    have r2 := F0.c2
    have r3 := F0.c3
    clear F0
    exact bodyPost_ret (v := .agg #[.int .i64 ((un x / 2048 * 255 + 15) / 31), .int .i64 ((un x / 32 % 64 * 255 + 31) / 63), .int .i64 ((un x % 32 * 255 + 15) / 31), .int .i64 255]) (by simp [results, Try.results46, go_sem, r0, r1, r2, r3]) rfl ⟨rfl, BN⟩
end Go.Proofs.Ythkngcdfnemhaaa
