/- Contracts of the program's functions on floats of 16 bits and of its WordOfHalf, as plain whole numbers; conditions: halves below 65536, the table of forms as the program lays it. -/
import Derived.Test.YtpildklndfgojaaDoorRound
namespace Go.Proofs.YtpildklndfgojaaDoor
open Go.ChangeShapes Go.WideShapes Go.ChangeAt Go.RowKit

theorem bit_sign_h (a : Int) (h0 : 0 ≤ a) (h1 : a < 65536) : bits .and .u32 a 32768 = a / 32768 * 32768 := by go_bits2
theorem and_15 (A : Nat) (h : A < 65536) : A &&& 4294934527 = A % 32768 := by
  rw [show (32768 : Nat) = 2 ^ 15 by decide]
  apply Nat.eq_of_testBit_eq
  intro i
  rw [Nat.testBit_and, Nat.testBit_mod_two_pow]
  by_cases h1 : i < 15
  · have e : Nat.testBit 4294934527 i = true := (by decide : ∀ i : Fin 15, Nat.testBit 4294934527 i.val = true) ⟨i, h1⟩
    simp [e, h1]
  · by_cases h2 : i = 15
    · subst h2
      have e : Nat.testBit 4294934527 15 = false := by decide
      simp [e]
    · have e : Nat.testBit A i = false := Nat.testBit_lt_two_pow (Nat.lt_of_lt_of_le h (by rw [show (65536 : Nat) = 2 ^ 16 by decide]; exact Nat.pow_le_pow_right (by decide) (by omega)))
      simp [e]
theorem bit_rung_h (a : Int) (h0 : 0 ≤ a) (h1 : a < 65536) : bits .andNot .u32 a 32768 = a % 32768 := by
  rw [u32_andNot a 32768 h0 (by omega) (by decide) (by decide)]
  obtain ⟨A, rfl⟩ := Int.eq_ofNat_of_zero_le h0
  have h := and_15 A (by omega)
  simp only [Int.toNat_natCast]
  rw [show (4294967295 - (32768 : Int).toNat : Nat) = 4294934527 by decide, h]
  simp
theorem signOf_h (a : Int) (h0 : 0 ≤ a) (h1 : a < 65536) (w : World) (c2 : w.cell? ⟨0, 6, none⟩ = some (.int .u32 32768)) :
    Calls Tryd.prog 49 #[.int .u32 a, .int .i64 1] w fun e w' => e = .returned (.int .u32 (a / 32768 * 32768)) ∧ w' = w := by
  have hb := bit_sign_h a h0 h1
  go_enter Tryd.func49, Tryd.ntmps49
  go_wp2
  go_ret
  exact ⟨rfl, rfl⟩
def kindH (r : Int) : Int := if r = 0 then 0 else if r ≤ 31743 then 1 else if r = 31744 then 2 else 3
theorem kindOf_h (a : Int) (h0 : 0 ≤ a) (h1 : a < 65536) (w : World) (G : Forms w) :
    Calls Tryd.prog 48 #[.int .u32 a, .int .i64 1] w fun e w' => e = .returned (.int .i64 (kindH (a % 32768))) ∧ w' = w := by
  have hb := bit_rung_h a h0 h1
  have c2 := G.c6
  have c3 := G.c7
  by_cases k0 : a % 32768 = 0
  · rw [show kindH (a % 32768) = 0 by unfold kindH; rw [if_pos k0]]
    go_enter Tryd.func48, Tryd.ntmps48
    go_wp2
    go_ret
    exact ⟨rfl, rfl⟩
  by_cases k1 : a % 32768 ≤ 31743
  · rw [show kindH (a % 32768) = 1 by unfold kindH; rw [if_neg k0, if_pos k1]]
    go_enter Tryd.func48, Tryd.ntmps48
    go_wp2
    go_ret
    exact ⟨rfl, rfl⟩
  by_cases k2 : a % 32768 = 31744
  · rw [show kindH (a % 32768) = 2 by unfold kindH; rw [if_neg k0, if_neg k1, if_pos k2]]
    go_enter Tryd.func48, Tryd.ntmps48
    go_wp2_with (go_at_call 50; refine (infOf_h _ c3).mono ?_; rintro e w' ⟨rfl, rfl⟩)
    go_ret
    exact ⟨rfl, rfl⟩
  · rw [show kindH (a % 32768) = 3 by unfold kindH; rw [if_neg k0, if_neg k1, if_neg k2]]
    go_enter Tryd.func48, Tryd.ntmps48
    go_wp2_with (go_at_call 50; refine (infOf_h _ c3).mono ?_; rintro e w' ⟨rfl, rfl⟩)
    go_ret
    exact ⟨rfl, rfl⟩
def exSh (r : Int) : Int := if 1024 ≤ r then r % 1024 + 1024 else r
def exPh (r : Int) : Int := if 1024 ≤ r then -24 + (r / 1024 - 1) else -24
set_option maxHeartbeats 1000000 in
theorem exactOf_h (a : Int) (h0 : 0 ≤ a) (h1 : a < 65536) (w : World) (G : Forms w) :
    Calls Tryd.prog 53 #[.int .u32 a, .int .i64 1] w fun e w' =>
      e = .returned (.agg #[.bool (decide (32768 ≤ a)), .int .u64 (exSh (a % 32768)), .int .i64 (exPh (a % 32768)), .bool false]) ∧ Below w.heap.size w w' := by
  have hb := bit_rung_h a h0 h1
  have c0 := G.c4
  have c1 := G.c5
  have c2 := G.c6
  have hp := G.pos
  have hz : ¬ (0 = w.heap.size) := by omega
  have n1 := World.new_ne w _ c1
  have n2 := World.new_ne w _ c2
  have hn : (a / 32768 * 32768 != 0) = decide (32768 ≤ a) := by rw [Bool.eq_iff_iff]; simp; omega
  by_cases k : 1024 ≤ a % 32768
  · have hs : exSh (a % 32768) = a % 1024 + 1024 := by unfold exSh; rw [if_pos k]; omega
    have he : exPh (a % 32768) = -24 + (a % 32768 / 1024 - 1) := by unfold exPh; rw [if_pos k]
    go_enter Tryd.func53, Tryd.ntmps53
    go_wp2
    go_region_held3 (fun w' => w'.cell? ⟨0, 5, none⟩ = some (.int .i64 (-24)) ∧ w'.cell? ⟨0, 6, none⟩ = some (.int .u32 32768)) (go_keep)
      (first | (go_at_call 49; refine (signOf_h _ h0 h1 _ ?_).mono ?_; (simp [*]); rintro e w' ⟨rfl, rfl⟩))
    all_goals go_wp2
    all_goals go_region
    all_goals go_wp2
    all_goals exact bodyPost_ret (v := .agg #[.bool (decide (32768 ≤ a)), .int .u64 (exSh (a % 32768)), .int .i64 (exPh (a % 32768)), .bool false]) (by simp [results, Tryd.results53, go_sem, hs, he]) rfl ⟨rfl, by repeat (first | exact Below.refl _ _ | apply Below.drew | (refine Below.setCell ?_ (by simp) _) | (refine Below.alloc ?_ (by simp) _))⟩
  · have hs : exSh (a % 32768) = a % 32768 := by unfold exSh; rw [if_neg k]
    have he : exPh (a % 32768) = -24 := by unfold exPh; rw [if_neg k]
    go_enter Tryd.func53, Tryd.ntmps53
    go_wp2
    go_region_held3 (fun w' => w'.cell? ⟨0, 5, none⟩ = some (.int .i64 (-24)) ∧ w'.cell? ⟨0, 6, none⟩ = some (.int .u32 32768)) (go_keep)
      (first | (go_at_call 49; refine (signOf_h _ h0 h1 _ ?_).mono ?_; (simp [*]); rintro e w' ⟨rfl, rfl⟩))
    all_goals go_wp2
    all_goals exact bodyPost_ret (v := .agg #[.bool (decide (32768 ≤ a)), .int .u64 (exSh (a % 32768)), .int .i64 (exPh (a % 32768)), .bool false]) (by simp [results, Tryd.results53, go_sem, hs, he]) rfl ⟨rfl, by repeat (first | exact Below.refl _ _ | apply Below.drew | (refine Below.setCell ?_ (by simp) _) | (refine Below.alloc ?_ (by simp) _))⟩

set_option maxHeartbeats 1000000 in
theorem between_0 (a : Int) (h0 : 0 ≤ a) (h1 : a < 65536) (hk : kindH (a % 32768) = 0) (w : World) (G : Forms w) :
    Calls Tryd.prog 33 #[.int .u32 a, .int .i64 1, .int .i64 0, .int .i64 2] w fun e w' => e = .returned (.int .u32 (sgn_w (decide (32768 ≤ a)) 0)) ∧ Below w.heap.size w w' := by
  have hn : (a / 32768 * 32768 != 0) = decide (32768 ≤ a) := by rw [Bool.eq_iff_iff]; simp; omega
  go_enter Tryd.func33, Tryd.ntmps33
  go_wp2_with (first | (go_at_call 49; refine (signOf_h _ h0 h1 _ G.c6).mono ?_; rintro e w' ⟨rfl, rfl⟩) | (go_at_call 48; refine (kindOf_h _ h0 h1 _ G).mono ?_; rintro e w' ⟨rfl, rfl⟩) | (go_at_call 83; refine (withSign_w _ _ (by decide) (by decide) _ G.c2).mono ?_; rintro e w' ⟨rfl, rfl⟩))
  go_ret
  exact ⟨rfl, Below.refl _ _⟩
set_option maxHeartbeats 1000000 in
theorem between_2 (a : Int) (h0 : 0 ≤ a) (h1 : a < 65536) (hk : kindH (a % 32768) = 2) (w : World) (G : Forms w) :
    Calls Tryd.prog 33 #[.int .u32 a, .int .i64 1, .int .i64 0, .int .i64 2] w fun e w' => e = .returned (.int .u32 (sgn_w (decide (32768 ≤ a)) 2139095040)) ∧ Below w.heap.size w w' := by
  have hn : (a / 32768 * 32768 != 0) = decide (32768 ≤ a) := by rw [Bool.eq_iff_iff]; simp; omega
  go_enter Tryd.func33, Tryd.ntmps33
  go_wp2_with (first | (go_at_call 49; refine (signOf_h _ h0 h1 _ G.c6).mono ?_; rintro e w' ⟨rfl, rfl⟩) | (go_at_call 48; refine (kindOf_h _ h0 h1 _ G).mono ?_; rintro e w' ⟨rfl, rfl⟩) | (go_at_call 50; refine (infOf_w _ G.c3).mono ?_; rintro e w' ⟨rfl, rfl⟩) | (go_at_call 83; refine (withSign_w _ _ (by decide) (by decide) _ G.c2).mono ?_; rintro e w' ⟨rfl, rfl⟩))
  go_ret
  exact ⟨rfl, Below.refl _ _⟩
theorem nanOf_w (w : World) : Calls Tryd.prog 84 #[.int .i64 0] w fun e w' => e = .returned (.int .u32 2143289344) ∧ w' = w := by
  go_enter Tryd.func84, Tryd.ntmps84
  go_wp2
  go_ret
  exact ⟨rfl, rfl⟩
set_option maxHeartbeats 1000000 in
theorem between_3 (a : Int) (h0 : 0 ≤ a) (h1 : a < 65536) (hk : kindH (a % 32768) = 3) (w : World) (G : Forms w) :
    Calls Tryd.prog 33 #[.int .u32 a, .int .i64 1, .int .i64 0, .int .i64 2] w fun e w' => e = .returned (.int .u32 2143289344) ∧ Below w.heap.size w w' := by
  go_enter Tryd.func33, Tryd.ntmps33
  go_wp2_with (first | (go_at_call 49; refine (signOf_h _ h0 h1 _ G.c6).mono ?_; rintro e w' ⟨rfl, rfl⟩) | (go_at_call 48; refine (kindOf_h _ h0 h1 _ G).mono ?_; rintro e w' ⟨rfl, rfl⟩) | (go_at_call 84; refine (nanOf_w _).mono ?_; rintro e w' ⟨rfl, rfl⟩))
  go_ret
  exact ⟨rfl, Below.refl _ _⟩
set_option maxHeartbeats 1000000 in
theorem between_1 (a R : Int) (h0 : 0 ≤ a) (h1 : a < 65536) (hk : kindH (a % 32768) = 1) (w : World) (G : Forms w)
    (hR : ∀ v : World, Forms v → Calls Tryd.prog 51 #[.agg #[.bool (decide (32768 ≤ a)), .int .u64 (exSh (a % 32768)), .int .i64 (exPh (a % 32768)), .bool false], .int .i64 0, .int .i64 2] v fun e w' => e = .returned (.int .u32 R) ∧ Below v.heap.size v w') :
    Calls Tryd.prog 33 #[.int .u32 a, .int .i64 1, .int .i64 0, .int .i64 2] w fun e w' => e = .returned (.int .u32 R) ∧ Below w.heap.size w w' := by
  go_enter Tryd.func33, Tryd.ntmps33
  go_wp2_with (first | (go_at_call 49; refine (signOf_h _ h0 h1 _ G.c6).mono ?_; rintro e w' ⟨rfl, rfl⟩) | (go_at_call 48; refine (kindOf_h _ h0 h1 _ G).mono ?_; rintro e w' ⟨rfl, rfl⟩) | (go_at_call 53; refine (exactOf_h _ h0 h1 _ G).mono ?_; rintro e w1 ⟨rfl, hb1⟩) | (go_at_call 51; refine (hR _ (G.below hb1)).mono ?_; rintro e w2 ⟨rfl, hb2⟩))
  go_ret
  exact ⟨rfl, hb1.trans (hb2.mono hb1.size)⟩
theorem iW_big (h : Int) (hb : 65535 < h) (w : World) (G : Forms w) : Calls Tryd.prog 9 #[.int .u32 h] w fun e w' => e = .returned (.int .u32 0) ∧ Below w.heap.size w w' := by
  have c6 := G.c6
  go_enter Tryd.func9, Tryd.ntmps9
  go_wp2
  go_ret
  exact ⟨rfl, Below.refl _ _⟩
theorem iW_of (h R : Int) (hb : h ≤ 65535) (w : World) (G : Forms w) (hB : Calls Tryd.prog 33 #[.int .u32 h, .int .i64 1, .int .i64 0, .int .i64 2] w fun e w' => e = .returned (.int .u32 R) ∧ Below w.heap.size w w') :
    Calls Tryd.prog 9 #[.int .u32 h] w fun e w' => e = .returned (.int .u32 R) ∧ Below w.heap.size w w' := by
  have c6 := G.c6
  go_enter Tryd.func9, Tryd.ntmps9
  go_wp2_with (go_at_call 33; refine hB.mono ?_; rintro e w1 ⟨rfl, hb1⟩)
  go_ret
  exact ⟨rfl, hb1⟩
end Go.Proofs.YtpildklndfgojaaDoor
