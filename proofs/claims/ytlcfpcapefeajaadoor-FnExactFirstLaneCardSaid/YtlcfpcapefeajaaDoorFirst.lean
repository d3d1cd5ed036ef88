/- Contracts of FirstLane, of the program (by the library's TrailingZeros) and of its model; conditions: the library's table holds its numbers. -/
import Derived.Test.YtlcfpcapefeajaaDoorBase
namespace Go.Proofs.YtlcfpcapefeajaaDoor
open Go.ChangeShapes Go.WideShapes Go.ChangeAt Go.RowKit
/-- The noughts behind the last 1 of n, at most f. -/
def tz : Nat → Nat → Nat
  | 0, _ => 0
  | f + 1, n => if n % 2 = 1 then 0 else 1 + tz f (n / 2)
theorem tz_spec : ∀ (f n : Nat), 0 < n → n < 2 ^ f → tz f n < f ∧ n / 2 ^ tz f n % 2 = 1 ∧ ∀ k, k < tz f n → n / 2 ^ k % 2 = 0
  | 0, n, h0, h1 => by simp at h1; omega
  | f + 1, n, h0, h1 => by
    unfold tz
    by_cases h : n % 2 = 1
    · rw [if_pos h]
      exact ⟨by omega, by simpa using h, fun k hk => by omega⟩
    · rw [if_neg h]
      obtain ⟨a, b, c⟩ := tz_spec f (n / 2) (by omega) (by rw [Nat.pow_succ] at h1; omega)
      have e : ∀ k, n / 2 ^ (1 + k) = n / 2 / 2 ^ k := fun k => by rw [Nat.add_comm, Nat.pow_succ, Nat.mul_comm, Nat.div_div_eq_div_mul]
      refine ⟨by omega, by rw [e]; exact b, fun k hk => ?_⟩
      cases k with
      | zero => simp; omega
      | succ k => rw [Nat.add_comm k 1, e]; exact c k (by omega)
set_option maxRecDepth 100000 in
theorem low_all : ∀ a : Fin 256, ∀ b : Fin 256, (256 * a.val + b.val == 0 || (256 * a.val + b.val) &&& (18446744073709551616 - (256 * a.val + b.val)) == 2 ^ tz 16 (256 * a.val + b.val)) = true := by decide +kernel
theorem low_nat (n : Nat) (h0 : 0 < n) (h1 : n < 65536) : n &&& (18446744073709551616 - n) = 2 ^ tz 16 n := by
  have h := low_all ⟨n / 256, by omega⟩ ⟨n % 256, by omega⟩
  have e : 256 * (n / 256) + n % 256 = n := Nat.div_add_mod n 256
  simp only [e] at h
  have hz : (n == 0) = false := by simp; omega
  rw [hz] at h
  simpa using h
theorem lowbit (m : Int) (h0 : 1 ≤ m) (h1 : m < 65536) : bits .and .u64 m (IntKind.u64.wrap (-m)) = ((2 ^ tz 16 m.toNat : Nat) : Int) := by
  obtain ⟨n, rfl⟩ := Int.eq_ofNat_of_zero_le (by omega : 0 ≤ m)
  rw [Int.toNat_natCast]
  have n0 : 0 < n := by omega
  have n1 : n < 65536 := by omega
  have hl := low_nat n n0 n1
  have hw : IntKind.u64.wrap (-(n : Int)) = 18446744073709551616 - (n : Int) := by rw [IntKind.wrap_u64]; omega
  have hn : (BitVec.ofInt IntKind.u64.bits (n : Int) &&& BitVec.ofInt IntKind.u64.bits (18446744073709551616 - (n : Int))).toNat = 2 ^ tz 16 n := by
    rw [BitVec.toNat_and, BitVec.toNat_ofInt, BitVec.toNat_ofInt]
    have e1 : ((n : Int) % ((2 ^ IntKind.u64.bits : Nat) : Int)).toNat = n := by
      show ((n : Int) % 18446744073709551616).toNat = n
      omega
    have e2 : ((18446744073709551616 - (n : Int)) % ((2 ^ IntKind.u64.bits : Nat) : Int)).toNat = 18446744073709551616 - n := by
      show ((18446744073709551616 - (n : Int)) % 18446744073709551616).toNat = 18446744073709551616 - n
      omega
    rw [e1, e2, hl]
  have hlt : 2 ^ tz 16 n < 65536 := by
    have := (tz_spec 16 n n0 (by show n < 65536; exact n1)).1
    exact Nat.lt_of_lt_of_eq (Nat.pow_lt_pow_right (by decide) this) rfl
  rw [hw]
  show IntKind.u64.wrap ((BitVec.ofInt IntKind.u64.bits (n : Int) &&& BitVec.ofInt IntKind.u64.bits (18446744073709551616 - (n : Int))).toNat : Int) = _
  rw [hn, IntKind.wrap_u64]
  omega
def tab64 : List Int := [0, 1, 56, 2, 57, 49, 28, 3, 61, 58, 42, 50, 38, 29, 17, 4, 62, 47, 59, 36, 45, 43, 51, 22, 53, 39, 33, 30, 24, 18, 12, 5, 63, 55, 48, 27, 60, 41, 37, 16, 46, 35, 44, 21, 52, 32, 23, 11, 54, 26, 40, 15, 34, 20, 31, 10, 25, 14, 19, 9, 13, 8, 7, 6]
def tab32 : List Int := [0, 1, 28, 2, 29, 14, 24, 3, 30, 22, 20, 15, 25, 17, 4, 8, 31, 27, 13, 23, 21, 19, 16, 7, 26, 12, 18, 6, 11, 5, 10, 9]
theorem g64 : Tryd.prog.globalNamed "math/bits.deBruijn64tab" = some 2 := by kernel_rfl
theorem g32 : Tryd.prog.globalNamed "math/bits.deBruijn32tab" = some 1 := by kernel_rfl
theorem ty64 : (Tryd.prog.globals[2]?).map (·.type) = some 110 := by kernel_rfl
theorem ty32 : (Tryd.prog.globals[1]?).map (·.type) = some 109 := by kernel_rfl
/-- The library's table of 64 holds its numbers. -/
def Tab (w : World) : Prop := ∀ i, i < 64 → w.cell? ⟨2, i, none⟩ = some (.int .u8 (tab64.getD i 0))
theorem tab_of_laid {W : World} (h : laidMet Tryd.prog [("math/bits.deBruijn32tab", Rows.laid_math_bits_deBruijn32tab), ("math/bits.deBruijn64tab", Rows.laid_math_bits_deBruijn64tab)] W) : Tab W := by
  obtain ⟨ps, ⟨_, _, _, _, _, _, _, _, _, _, ⟨g, t, cs, fuel, p, q, hg, ht, hvar, hd, _, _⟩, _⟩, _⟩ := h
  obtain rfl := Option.some.inj (g64.symm.trans hg)
  obtain rfl := Option.some.inj (ty64.symm.trans ht)
  have e := Lib.cells_of_tab (k := .u8) (zs := tab64) Tryd.underlying110 Tryd.underlying5 (by kernel_rfl) (by kernel_rfl) hd
  intro i hi
  have := World.var?_cell g64 hvar i
  rw [this]
  have : cs[i]? = cs.toList[i]? := by simp
  rw [this, e]
  have hl : i < tab64.length := hi
  simp [List.getD, hl]
set_option maxHeartbeats 2000000 in
theorem tz64 (m : Int) (h0 : 1 ≤ m) (h1 : m < 65536) (w : World) (T : Tab w) : Calls Tryd.prog 64 #[.int .u64 m] w fun e w' => e = .returned (.int .i64 ((tz 16 m.toNat : Nat) : Int)) ∧ w' = w := by
  have hlt := (tz_spec 16 m.toNat (by omega) (by show m.toNat < 65536; omega)).1
  rcases (show tz 16 m.toNat = 0 ∨ tz 16 m.toNat = 1 ∨ tz 16 m.toNat = 2 ∨ tz 16 m.toNat = 3 ∨ tz 16 m.toNat = 4 ∨ tz 16 m.toNat = 5 ∨ tz 16 m.toNat = 6 ∨ tz 16 m.toNat = 7 ∨ tz 16 m.toNat = 8 ∨ tz 16 m.toNat = 9 ∨ tz 16 m.toNat = 10 ∨ tz 16 m.toNat = 11 ∨ tz 16 m.toNat = 12 ∨ tz 16 m.toNat = 13 ∨ tz 16 m.toNat = 14 ∨ tz 16 m.toNat = 15 by omega) with hk | hk | hk | hk | hk | hk | hk | hk | hk | hk | hk | hk | hk | hk | hk | hk
  · have hb : bits .and .u64 m (IntKind.u64.wrap (-m)) = 1 := by rw [lowbit m h0 h1, hk]; rfl
    have hm : IntKind.u64.wrap (1 * 285870213051353865) = 285870213051353865 := by rw [IntKind.wrap_u64]; rfl
    have hm' : IntKind.u64.wrap 285870213051353865 = 285870213051353865 := by rw [IntKind.wrap_u64]; rfl
    have c := T 0 (by decide)
    have c' : w.cell? ⟨2, 0, none⟩ = some (.int .u8 0) := c
    clear c
    rw [hk]
    clear hk
    go_enter Tryd.func64, Tryd.ntmps64
    go_wp2
    go_ret
    exact ⟨rfl, rfl⟩
  · have hb : bits .and .u64 m (IntKind.u64.wrap (-m)) = 2 := by rw [lowbit m h0 h1, hk]; rfl
    have hm : IntKind.u64.wrap (2 * 285870213051353865) = 571740426102707730 := by rw [IntKind.wrap_u64]; rfl
    have hm' : IntKind.u64.wrap 571740426102707730 = 571740426102707730 := by rw [IntKind.wrap_u64]; rfl
    have c := T 1 (by decide)
    have c' : w.cell? ⟨2, 1, none⟩ = some (.int .u8 1) := c
    clear c
    rw [hk]
    clear hk
    go_enter Tryd.func64, Tryd.ntmps64
    go_wp2
    go_ret
    exact ⟨rfl, rfl⟩
  · have hb : bits .and .u64 m (IntKind.u64.wrap (-m)) = 4 := by rw [lowbit m h0 h1, hk]; rfl
    have hm : IntKind.u64.wrap (4 * 285870213051353865) = 1143480852205415460 := by rw [IntKind.wrap_u64]; rfl
    have hm' : IntKind.u64.wrap 1143480852205415460 = 1143480852205415460 := by rw [IntKind.wrap_u64]; rfl
    have c := T 3 (by decide)
    have c' : w.cell? ⟨2, 3, none⟩ = some (.int .u8 2) := c
    clear c
    rw [hk]
    clear hk
    go_enter Tryd.func64, Tryd.ntmps64
    go_wp2
    go_ret
    exact ⟨rfl, rfl⟩
  · have hb : bits .and .u64 m (IntKind.u64.wrap (-m)) = 8 := by rw [lowbit m h0 h1, hk]; rfl
    have hm : IntKind.u64.wrap (8 * 285870213051353865) = 2286961704410830920 := by rw [IntKind.wrap_u64]; rfl
    have hm' : IntKind.u64.wrap 2286961704410830920 = 2286961704410830920 := by rw [IntKind.wrap_u64]; rfl
    have c := T 7 (by decide)
    have c' : w.cell? ⟨2, 7, none⟩ = some (.int .u8 3) := c
    clear c
    rw [hk]
    clear hk
    go_enter Tryd.func64, Tryd.ntmps64
    go_wp2
    go_ret
    exact ⟨rfl, rfl⟩
  · have hb : bits .and .u64 m (IntKind.u64.wrap (-m)) = 16 := by rw [lowbit m h0 h1, hk]; rfl
    have hm : IntKind.u64.wrap (16 * 285870213051353865) = 4573923408821661840 := by rw [IntKind.wrap_u64]; rfl
    have hm' : IntKind.u64.wrap 4573923408821661840 = 4573923408821661840 := by rw [IntKind.wrap_u64]; rfl
    have c := T 15 (by decide)
    have c' : w.cell? ⟨2, 15, none⟩ = some (.int .u8 4) := c
    clear c
    rw [hk]
    clear hk
    go_enter Tryd.func64, Tryd.ntmps64
    go_wp2
    go_ret
    exact ⟨rfl, rfl⟩
  · have hb : bits .and .u64 m (IntKind.u64.wrap (-m)) = 32 := by rw [lowbit m h0 h1, hk]; rfl
    have hm : IntKind.u64.wrap (32 * 285870213051353865) = 9147846817643323680 := by rw [IntKind.wrap_u64]; rfl
    have hm' : IntKind.u64.wrap 9147846817643323680 = 9147846817643323680 := by rw [IntKind.wrap_u64]; rfl
    have c := T 31 (by decide)
    have c' : w.cell? ⟨2, 31, none⟩ = some (.int .u8 5) := c
    clear c
    rw [hk]
    clear hk
    go_enter Tryd.func64, Tryd.ntmps64
    go_wp2
    go_ret
    exact ⟨rfl, rfl⟩
  · have hb : bits .and .u64 m (IntKind.u64.wrap (-m)) = 64 := by rw [lowbit m h0 h1, hk]; rfl
    have hm : IntKind.u64.wrap (64 * 285870213051353865) = 18295693635286647360 := by rw [IntKind.wrap_u64]; rfl
    have hm' : IntKind.u64.wrap 18295693635286647360 = 18295693635286647360 := by rw [IntKind.wrap_u64]; rfl
    have c := T 63 (by decide)
    have c' : w.cell? ⟨2, 63, none⟩ = some (.int .u8 6) := c
    clear c
    rw [hk]
    clear hk
    go_enter Tryd.func64, Tryd.ntmps64
    go_wp2
    go_ret
    exact ⟨rfl, rfl⟩
  · have hb : bits .and .u64 m (IntKind.u64.wrap (-m)) = 128 := by rw [lowbit m h0 h1, hk]; rfl
    have hm : IntKind.u64.wrap (128 * 285870213051353865) = 18144643196863743104 := by rw [IntKind.wrap_u64]; rfl
    have hm' : IntKind.u64.wrap 36591387270573294720 = 18144643196863743104 := by rw [IntKind.wrap_u64]; rfl
    have c := T 62 (by decide)
    have c' : w.cell? ⟨2, 62, none⟩ = some (.int .u8 7) := c
    clear c
    rw [hk]
    clear hk
    go_enter Tryd.func64, Tryd.ntmps64
    go_wp2
    go_ret
    exact ⟨rfl, rfl⟩
  · have hb : bits .and .u64 m (IntKind.u64.wrap (-m)) = 256 := by rw [lowbit m h0 h1, hk]; rfl
    have hm : IntKind.u64.wrap (256 * 285870213051353865) = 17842542320017934592 := by rw [IntKind.wrap_u64]; rfl
    have hm' : IntKind.u64.wrap 73182774541146589440 = 17842542320017934592 := by rw [IntKind.wrap_u64]; rfl
    have c := T 61 (by decide)
    have c' : w.cell? ⟨2, 61, none⟩ = some (.int .u8 8) := c
    clear c
    rw [hk]
    clear hk
    go_enter Tryd.func64, Tryd.ntmps64
    go_wp2
    go_ret
    exact ⟨rfl, rfl⟩
  · have hb : bits .and .u64 m (IntKind.u64.wrap (-m)) = 512 := by rw [lowbit m h0 h1, hk]; rfl
    have hm : IntKind.u64.wrap (512 * 285870213051353865) = 17238340566326317568 := by rw [IntKind.wrap_u64]; rfl
    have hm' : IntKind.u64.wrap 146365549082293178880 = 17238340566326317568 := by rw [IntKind.wrap_u64]; rfl
    have c := T 59 (by decide)
    have c' : w.cell? ⟨2, 59, none⟩ = some (.int .u8 9) := c
    clear c
    rw [hk]
    clear hk
    go_enter Tryd.func64, Tryd.ntmps64
    go_wp2
    go_ret
    exact ⟨rfl, rfl⟩
  · have hb : bits .and .u64 m (IntKind.u64.wrap (-m)) = 1024 := by rw [lowbit m h0 h1, hk]; rfl
    have hm : IntKind.u64.wrap (1024 * 285870213051353865) = 16029937058943083520 := by rw [IntKind.wrap_u64]; rfl
    have hm' : IntKind.u64.wrap 292731098164586357760 = 16029937058943083520 := by rw [IntKind.wrap_u64]; rfl
    have c := T 55 (by decide)
    have c' : w.cell? ⟨2, 55, none⟩ = some (.int .u8 10) := c
    clear c
    rw [hk]
    clear hk
    go_enter Tryd.func64, Tryd.ntmps64
    go_wp2
    go_ret
    exact ⟨rfl, rfl⟩
  · have hb : bits .and .u64 m (IntKind.u64.wrap (-m)) = 2048 := by rw [lowbit m h0 h1, hk]; rfl
    have hm : IntKind.u64.wrap (2048 * 285870213051353865) = 13613130044176615424 := by rw [IntKind.wrap_u64]; rfl
    have hm' : IntKind.u64.wrap 585462196329172715520 = 13613130044176615424 := by rw [IntKind.wrap_u64]; rfl
    have c := T 47 (by decide)
    have c' : w.cell? ⟨2, 47, none⟩ = some (.int .u8 11) := c
    clear c
    rw [hk]
    clear hk
    go_enter Tryd.func64, Tryd.ntmps64
    go_wp2
    go_ret
    exact ⟨rfl, rfl⟩
  · have hb : bits .and .u64 m (IntKind.u64.wrap (-m)) = 4096 := by rw [lowbit m h0 h1, hk]; rfl
    have hm : IntKind.u64.wrap (4096 * 285870213051353865) = 8779516014643679232 := by rw [IntKind.wrap_u64]; rfl
    have hm' : IntKind.u64.wrap 1170924392658345431040 = 8779516014643679232 := by rw [IntKind.wrap_u64]; rfl
    have c := T 30 (by decide)
    have c' : w.cell? ⟨2, 30, none⟩ = some (.int .u8 12) := c
    clear c
    rw [hk]
    clear hk
    go_enter Tryd.func64, Tryd.ntmps64
    go_wp2
    go_ret
    exact ⟨rfl, rfl⟩
  · have hb : bits .and .u64 m (IntKind.u64.wrap (-m)) = 8192 := by rw [lowbit m h0 h1, hk]; rfl
    have hm : IntKind.u64.wrap (8192 * 285870213051353865) = 17559032029287358464 := by rw [IntKind.wrap_u64]; rfl
    have hm' : IntKind.u64.wrap 2341848785316690862080 = 17559032029287358464 := by rw [IntKind.wrap_u64]; rfl
    have c := T 60 (by decide)
    have c' : w.cell? ⟨2, 60, none⟩ = some (.int .u8 13) := c
    clear c
    rw [hk]
    clear hk
    go_enter Tryd.func64, Tryd.ntmps64
    go_wp2
    go_ret
    exact ⟨rfl, rfl⟩
  · have hb : bits .and .u64 m (IntKind.u64.wrap (-m)) = 16384 := by rw [lowbit m h0 h1, hk]; rfl
    have hm : IntKind.u64.wrap (16384 * 285870213051353865) = 16671319984865165312 := by rw [IntKind.wrap_u64]; rfl
    have hm' : IntKind.u64.wrap 4683697570633381724160 = 16671319984865165312 := by rw [IntKind.wrap_u64]; rfl
    have c := T 57 (by decide)
    have c' : w.cell? ⟨2, 57, none⟩ = some (.int .u8 14) := c
    clear c
    rw [hk]
    clear hk
    go_enter Tryd.func64, Tryd.ntmps64
    go_wp2
    go_ret
    exact ⟨rfl, rfl⟩
  · have hb : bits .and .u64 m (IntKind.u64.wrap (-m)) = 32768 := by rw [lowbit m h0 h1, hk]; rfl
    have hm : IntKind.u64.wrap (32768 * 285870213051353865) = 14895895896020779008 := by rw [IntKind.wrap_u64]; rfl
    have hm' : IntKind.u64.wrap 9367395141266763448320 = 14895895896020779008 := by rw [IntKind.wrap_u64]; rfl
    have c := T 51 (by decide)
    have c' : w.cell? ⟨2, 51, none⟩ = some (.int .u8 15) := c
    clear c
    rw [hk]
    clear hk
    go_enter Tryd.func64, Tryd.ntmps64
    go_wp2
    go_ret
    exact ⟨rfl, rfl⟩
theorem tz41 (m : Int) (h0 : 1 ≤ m) (h1 : m < 65536) (w : World) (T : Tab w) : Calls Tryd.prog 41 #[.int .u64 m] w fun e w' => e = .returned (.int .i64 ((tz 16 m.toNat : Nat) : Int)) ∧ w' = w := by
  have HT : Hid (Tab w) := T
  clear T
  go_enter Tryd.func41, Tryd.ntmps41
  go_wp2_with (go_at_call 64; refine (tz64 m h0 h1 w HT.out).mono ?_; rintro e w1 ⟨rfl, hw⟩; subst w1)
  go_ret
  exact ⟨rfl, rfl⟩
theorem g40 (m : Int) (w : World) : Calls Tryd.prog 40 #[.int .i64 16, .int .i64 m] w fun e w' => e = .returned (.bool (decide (0 ≤ m) && decide (m < 65536))) ∧ w' = w := by
  by_cases h : 0 ≤ m
  · rw [decide_eq_true h, Bool.true_and]
    go_enter Tryd.func40, Tryd.ntmps40
    go_wp2
    go_ret
    exact ⟨rfl, rfl⟩
  · rw [decide_eq_false h, Bool.false_and]
    go_enter Tryd.func40, Tryd.ntmps40
    go_wp2
    go_ret
    exact ⟨rfl, rfl⟩
def first (m : Int) : Int := if 1 ≤ m ∧ m < 65536 then ((tz 16 m.toNat : Nat) : Int) else -1
theorem first25 (m : Int) (w : World) (T : Tab w) : Calls Tryd.prog 25 #[.int .i64 m] w fun e w' => e = .returned (.int .i64 (first m)) ∧ w' = w := by
  have HT : Hid (Tab w) := T
  clear T
  unfold first
  by_cases h : 1 ≤ m ∧ m < 65536
  · obtain ⟨h0, h1⟩ := h
    rw [if_pos ⟨h0, h1⟩]
    have d1 : decide (0 ≤ m) = true := by simp; omega
    have d2 : decide (m < 65536) = true := by simp; omega
    go_enter Tryd.func25, Tryd.ntmps25
    go_wp2_with (first | (go_at_call 40; refine (g40 m w).mono ?_; rintro e w1 ⟨rfl, hw⟩; subst w1; rw [d1, d2]) | (go_at_call 41; refine (tz41 m h0 h1 w HT.out).mono ?_; rintro e w1 ⟨rfl, hw⟩; subst w1))
    go_ret
    exact ⟨rfl, rfl⟩
  · rw [if_neg h]
    by_cases hz : m = 0
    · subst hz
      clear h
      go_enter Tryd.func25, Tryd.ntmps25
      go_wp2
      go_ret
      exact ⟨rfl, rfl⟩
    · have d : (decide (0 ≤ m) && decide (m < 65536)) = false := by simp; omega
      clear h
      go_enter Tryd.func25, Tryd.ntmps25
      go_wp2_with (go_at_call 40; refine (g40 m w).mono ?_; rintro e w1 ⟨rfl, hw⟩; subst w1; rw [d])
      go_ret
      exact ⟨rfl, rfl⟩
theorem and1 (x : Int) (x0 : 0 ≤ x) (x2 : x < 65536) : bits .and .i64 x 1 = x % 2 := by
  obtain ⟨k, rfl⟩ := Int.eq_ofNat_of_zero_le x0
  have hn : (BitVec.ofInt IntKind.i64.bits (k : Int) &&& BitVec.ofInt IntKind.i64.bits 1).toNat = k % 2 := by
    rw [BitVec.toNat_and, BitVec.toNat_ofInt, BitVec.toNat_ofInt]
    have e1 : ((k : Int) % ((2 ^ IntKind.i64.bits : Nat) : Int)).toNat = k := by
      show ((k : Int) % 18446744073709551616).toNat = k
      omega
    have e2 : ((1 : Int) % ((2 ^ IntKind.i64.bits : Nat) : Int)).toNat = 1 := by rfl
    rw [e1, e2, Nat.and_one_is_mod]
  show IntKind.i64.wrap ((BitVec.ofInt IntKind.i64.bits (k : Int) &&& BitVec.ofInt IntKind.i64.bits 1).toNat : Int) = (k : Int) % 2
  rw [hn, IntKind.wrap_i64]
  omega
theorem bit_at (n k : Nat) (h : n < 65536) : bits .and .i64 ((n : Int) / 2 ^ k) 1 = ((n / 2 ^ k % 2 : Nat) : Int) := by
  have e : ((n : Int) / 2 ^ k) = ((n / 2 ^ k : Nat) : Int) := by simp
  have hle : n / 2 ^ k ≤ n := Nat.div_le_self _ _
  rw [e, and1 _ (Int.natCast_nonneg _) (Int.ofNat_lt.2 (Nat.lt_of_le_of_lt hle h))]
  exact (Int.natCast_emod _ 2).symm
set_option maxRecDepth 100000 in
set_option maxHeartbeats 1000000 in
theorem first24 (m : Int) (w : World) : Calls Tryd.prog 24 #[.int .i64 m] w fun e w' => e = .returned (.int .i64 (first m)) ∧ w' = w := by
  unfold first
  by_cases h : 1 ≤ m ∧ m < 65536
  · obtain ⟨h0, h1⟩ := h
    rw [if_pos ⟨h0, h1⟩]
    obtain ⟨n, hmn⟩ := Int.eq_ofNat_of_zero_le (by omega : 0 ≤ m)
    have hn1 : n < 65536 := by omega
    have htn : m.toNat = n := by omega
    obtain ⟨s1, s2, s3⟩ := tz_spec 16 n (by omega) (by show n < 65536; omega)
    rw [htn]
    obtain ⟨t, ht⟩ : ∃ t, tz 16 n = t := ⟨_, rfl⟩
    rw [ht] at s1 s2 s3 ⊢
    have S2 : Hid (bits .and .i64 (m / 2 ^ t) 1 = 1) := by show _ = _; rw [hmn, bit_at n t hn1, s2]; rfl
    have S3 : Hid (∀ k, k < t → bits .and .i64 (m / 2 ^ k) 1 = 0) := fun k hk => by rw [hmn, bit_at n k hn1, s3 k hk]; rfl
    clear s2 s3 ht htn hmn hn1
    go_enter Tryd.func24, Tryd.ntmps24
    go_wp2
    go_loopw [3] (fun i wr => ∃ k : Nat, k ≤ t ∧ i = .int .i64 k ∧ wr = w) (fun i _ => t - (intOf i).toNat)
    case atStart => exact ⟨0, Nat.zero_le _, rfl, rfl⟩
    case round =>
      obtain ⟨k, hk, rfl, hwr⟩ := hrel
      subst wr
      have k1 : (k : Int) < 16 := by omega
      by_cases hkt : k < t
      · have hb := S3.out k hkt
        go_wp2
        go_roundw
        case rel => exact ⟨k + 1, by omega, by go_num, by first | rfl | trivial⟩
        case measure => simp [intOf]; omega
      · have hkk : k = t := by omega
        subst hkk
        have hb : bits .and .i64 (m / 2 ^ k) 1 = 1 := S2.out
        go_wp2
        go_ret
        exact ⟨rfl, rfl⟩
  · rw [if_neg h]
    by_cases hz : m < 1
    · clear h
      go_enter Tryd.func24, Tryd.ntmps24
      go_wp2
      go_ret
      exact ⟨rfl, rfl⟩
    · have hz2 : 65535 < m := by omega
      clear h
      go_enter Tryd.func24, Tryd.ntmps24
      go_wp2
      go_ret
      exact ⟨rfl, rfl⟩
end Go.Proofs.YtlcfpcapefeajaaDoor
