/- Contract of the program's roundExact: a size times a power of 2, rounded to a float by a mode, as plain whole numbers; conditions: a size above 0 of 64 bits, a power within 10000, the table of forms as the program lays it. -/
import Derived.Test.YtoloenkcfpfgcaaDoorSign
import Derived.Deep.RegionHeld3
namespace Go.Proofs.YtoloenkcfpfgcaaDoor
open Go.ChangeShapes Go.WideShapes Go.ChangeAt Go.RowKit

theorem wr64 (x : Int) (h0 : -9223372036854775808 ≤ x) (h1 : x ≤ 9223372036854775807) : IntKind.i64.wrap x = x := by
  simp [IntKind.wrap, IntKind.bits, IntKind.signed]; omega

/-- The float that a kept size K at a step makes, its sign ahead. -/
def told_w (mode : Int) (neg : Bool) (K step : Int) : Int :=
  if 2139095039 < K + (step - (-149)) * 8388608 then bey_w mode neg else sgn_w neg (K + (step - (-149)) * 8388608)

set_option maxHeartbeats 2000000 in
theorem rx_up_w (n : Bool) (z p mode : Int) (m : Bool) (w : World) (G : Forms w) (h0 : 0 < z) (h1 : z < 18446744073709551616) (p0 : -10000 ≤ p) (p1 : p ≤ 10000)
    (L step K : Int) (hL : (Lib.bitLen z.toNat : Int) = L) (l1 : L ≤ 64) (hs1 : L + p - 23 - 1 ≤ step) (hs2 : (-149) ≤ step) (hs3 : step = L + p - 23 - 1 ∨ step = (-149)) (hsh : step - p ≤ 0)
    (hK : z * 2 ^ (p - step).toNat % 18446744073709551616 = K) (k0 : 0 ≤ K) (k1 : K ≤ 16777216) :
    Calls Tryd.prog 55 #[.agg #[.bool n, .int .u64 z, .int .i64 p, .bool m], .int .i64 0, .int .i64 mode] w fun e w' => e = .returned (.int .u32 (told_w mode n K step)) ∧ Below w.heap.size w w' := by
  have c0 := G.c0
  have c1 := G.c1
  have c2 := G.c2
  have c3 := G.c3
  have hp := G.pos
  have hp0 : 0 < w.heap.size := by omega
  have hp1 : 1 < w.heap.size + 1 := by omega
  have hz : ¬ (1 = w.heap.size) := by omega
  have hg : goesB mode n K 0 = false := by unfold goesB; split <;> simp
  have hneg : (-(step - p)).toNat = (p - step).toNat := by omega
  have hK' : z * 2 ^ (-(step - p)).toNat % 18446744073709551616 = K := by rw [hneg]; exact hK
  have hstep : (if IntKind.i64.wrap (IntKind.i64.wrap (IntKind.i64.wrap (L + p) - 23) - 1) < (-149) then (-149) else IntKind.i64.wrap (IntKind.i64.wrap (IntKind.i64.wrap (L + p) - 23) - 1)) = step := by
    rw [wr64 (L + p) (by omega) (by omega), wr64 (L + p - 23) (by omega) (by omega), wr64 (L + p - 23 - 1) (by omega) (by omega)]
    split <;> omega
  by_cases hbig : 2139095039 < K + (step - (-149)) * 8388608
  · have ht : told_w mode n K step = bey_w mode n := by unfold told_w; rw [if_pos hbig]
    rw [ht]
    go_enter Tryd.func55, Tryd.ntmps55
    go_wp2
    go_quiet (fail)
    go_wp2
    go_region_held3 (fun w' => w'.cell? ⟨w.heap.size, 1, none⟩ = some (.int .u64 z) ∧ w'.cell? ⟨w.heap.size, 2, none⟩ = some (.int .i64 p)) (go_keep) (first | (go_at_call 74; refine (len64_any _ (by omega) (by omega) _).mono ?_; rintro e w' ⟨rfl, rfl⟩))

    go_wp2_with (first | (go_at_call 75; refine (cutBits_up _ _ _ _ _ (by omega) (by omega) _).mono ?_; rintro e w' ⟨rfl, hb2⟩; obtain ⟨hc2, hf2⟩ := bcell hb2; have hz2 := hb2.size; have hbw := (below_drewN ((Below.refl w.heap.size w).alloc (Nat.le_refl _) _) _).trans (hb2.mono (by simp)); have G2 := G.below hbw) | (go_at_call 76; refine (goesAway_any _ _ _ _ (by omega) (by omega) (by omega) _).mono ?_; rintro e w' ⟨rfl, rfl⟩) | (go_at_call 73; refine (withSign_w _ _ (by omega) (by omega) _ G2.c2).mono ?_; rintro e w' ⟨rfl, rfl⟩) | (go_at_call 77; refine (beyond_w _ _ _ G2.c2 G2.c3).mono ?_; rintro e w' ⟨rfl, rfl⟩))
    go_ret
    exact ⟨rfl, hbw⟩
  · have ht : told_w mode n K step = sgn_w n (K + (step - (-149)) * 8388608) := by unfold told_w; rw [if_neg hbig]
    rw [ht]
    go_enter Tryd.func55, Tryd.ntmps55
    go_wp2
    go_quiet (fail)
    go_wp2
    go_region_held3 (fun w' => w'.cell? ⟨w.heap.size, 1, none⟩ = some (.int .u64 z) ∧ w'.cell? ⟨w.heap.size, 2, none⟩ = some (.int .i64 p)) (go_keep) (first | (go_at_call 74; refine (len64_any _ (by omega) (by omega) _).mono ?_; rintro e w' ⟨rfl, rfl⟩))

    go_wp2_with (first | (go_at_call 75; refine (cutBits_up _ _ _ _ _ (by omega) (by omega) _).mono ?_; rintro e w' ⟨rfl, hb2⟩; obtain ⟨hc2, hf2⟩ := bcell hb2; have hz2 := hb2.size; have hbw := (below_drewN ((Below.refl w.heap.size w).alloc (Nat.le_refl _) _) _).trans (hb2.mono (by simp)); have G2 := G.below hbw) | (go_at_call 76; refine (goesAway_any _ _ _ _ (by omega) (by omega) (by omega) _).mono ?_; rintro e w' ⟨rfl, rfl⟩) | (go_at_call 73; refine (withSign_w _ _ (by omega) (by omega) _ G2.c2).mono ?_; rintro e w' ⟨rfl, rfl⟩) | (go_at_call 77; refine (beyond_w _ _ _ G2.c2 G2.c3).mono ?_; rintro e w' ⟨rfl, rfl⟩))
    go_ret
    exact ⟨rfl, hbw⟩
set_option maxHeartbeats 2000000 in
theorem rx_dn_w (n : Bool) (z p mode : Int) (m : Bool) (w : World) (G : Forms w) (h0 : 0 < z) (h1 : z < 18446744073709551616) (p0 : -10000 ≤ p) (p1 : p ≤ 10000)
    (L step K c : Int) (g : Bool) (hL : (Lib.bitLen z.toNat : Int) = L) (l1 : L ≤ 64) (hs1 : L + p - 23 - 1 ≤ step) (hs2 : (-149) ≤ step) (hs3 : step = L + p - 23 - 1 ∨ step = (-149)) (hsh : 0 < step - p)
    (hK : z / 2 ^ (step - p).toNat = K) (k0 : 0 ≤ K) (k1 : K ≤ 16777216) (hc : cutI (z % 2 ^ (step - p).toNat) (2 ^ ((step - p).toNat - 1)) m = c) (hg : goesB mode n K c = g) :
    Calls Tryd.prog 55 #[.agg #[.bool n, .int .u64 z, .int .i64 p, .bool m], .int .i64 0, .int .i64 mode] w fun e w' => e = .returned (.int .u32 (told_w mode n (if g then K + 1 else K) step)) ∧ Below w.heap.size w w' := by
  have c0 := G.c0
  have c1 := G.c1
  have c2 := G.c2
  have c3 := G.c3
  have hp := G.pos
  have hp0 : 0 < w.heap.size := by omega
  have hp1 : 1 < w.heap.size + 1 := by omega
  have hz : ¬ (1 = w.heap.size) := by omega
  have hcc : c = 0 ∨ c = 1 ∨ c = 2 ∨ c = 3 := by rw [← hc]; exact cutI_cases _ _ _
  have hstep : (if IntKind.i64.wrap (IntKind.i64.wrap (IntKind.i64.wrap (L + p) - 23) - 1) < (-149) then (-149) else IntKind.i64.wrap (IntKind.i64.wrap (IntKind.i64.wrap (L + p) - 23) - 1)) = step := by
    rw [wr64 (L + p) (by omega) (by omega), wr64 (L + p - 23) (by omega) (by omega), wr64 (L + p - 23 - 1) (by omega) (by omega)]
    split <;> omega
  cases g
  · simp only [if_false, Bool.false_eq_true]
    by_cases hbig : 2139095039 < K + (step - (-149)) * 8388608
    · have ht : told_w mode n K step = bey_w mode n := by unfold told_w; rw [if_pos hbig]
      rw [ht]
      go_enter Tryd.func55, Tryd.ntmps55
      go_wp2
      go_quiet (fail)
      go_wp2
      go_region_held3 (fun w' => w'.cell? ⟨w.heap.size, 1, none⟩ = some (.int .u64 z) ∧ w'.cell? ⟨w.heap.size, 2, none⟩ = some (.int .i64 p)) (go_keep) (first | (go_at_call 74; refine (len64_any _ (by omega) (by omega) _).mono ?_; rintro e w' ⟨rfl, rfl⟩))

      go_wp2_with (first | (go_at_call 75; refine (cutBits_dn _ _ _ _ _ (by omega) (by omega) (by omega) (by omega) _).mono ?_; rintro e w' ⟨rfl, hb2⟩; obtain ⟨hc2, hf2⟩ := bcell hb2; have hz2 := hb2.size; have hbw := (below_drewN ((Below.refl w.heap.size w).alloc (Nat.le_refl _) _) _).trans (hb2.mono (by simp)); have G2 := G.below hbw) | (go_at_call 76; refine (goesAway_any _ _ _ _ (by omega) (by omega) hcc _).mono ?_; rintro e w' ⟨rfl, rfl⟩) | (go_at_call 73; refine (withSign_w _ _ (by omega) (by omega) _ G2.c2).mono ?_; rintro e w' ⟨rfl, rfl⟩) | (go_at_call 77; refine (beyond_w _ _ _ G2.c2 G2.c3).mono ?_; rintro e w' ⟨rfl, rfl⟩))
      go_ret
      exact ⟨rfl, hbw⟩
    · have ht : told_w mode n K step = sgn_w n (K + (step - (-149)) * 8388608) := by unfold told_w; rw [if_neg hbig]
      rw [ht]
      go_enter Tryd.func55, Tryd.ntmps55
      go_wp2
      go_quiet (fail)
      go_wp2
      go_region_held3 (fun w' => w'.cell? ⟨w.heap.size, 1, none⟩ = some (.int .u64 z) ∧ w'.cell? ⟨w.heap.size, 2, none⟩ = some (.int .i64 p)) (go_keep) (first | (go_at_call 74; refine (len64_any _ (by omega) (by omega) _).mono ?_; rintro e w' ⟨rfl, rfl⟩))

      go_wp2_with (first | (go_at_call 75; refine (cutBits_dn _ _ _ _ _ (by omega) (by omega) (by omega) (by omega) _).mono ?_; rintro e w' ⟨rfl, hb2⟩; obtain ⟨hc2, hf2⟩ := bcell hb2; have hz2 := hb2.size; have hbw := (below_drewN ((Below.refl w.heap.size w).alloc (Nat.le_refl _) _) _).trans (hb2.mono (by simp)); have G2 := G.below hbw) | (go_at_call 76; refine (goesAway_any _ _ _ _ (by omega) (by omega) hcc _).mono ?_; rintro e w' ⟨rfl, rfl⟩) | (go_at_call 73; refine (withSign_w _ _ (by omega) (by omega) _ G2.c2).mono ?_; rintro e w' ⟨rfl, rfl⟩) | (go_at_call 77; refine (beyond_w _ _ _ G2.c2 G2.c3).mono ?_; rintro e w' ⟨rfl, rfl⟩))
      go_ret
      exact ⟨rfl, hbw⟩
  · simp only [if_true]
    by_cases hbig : 2139095039 < K + 1 + (step - (-149)) * 8388608
    · have ht : told_w mode n (K + 1) step = bey_w mode n := by unfold told_w; rw [if_pos hbig]
      rw [ht]
      go_enter Tryd.func55, Tryd.ntmps55
      go_wp2
      go_quiet (fail)
      go_wp2
      go_region_held3 (fun w' => w'.cell? ⟨w.heap.size, 1, none⟩ = some (.int .u64 z) ∧ w'.cell? ⟨w.heap.size, 2, none⟩ = some (.int .i64 p)) (go_keep) (first | (go_at_call 74; refine (len64_any _ (by omega) (by omega) _).mono ?_; rintro e w' ⟨rfl, rfl⟩))

      go_wp2_with (first | (go_at_call 75; refine (cutBits_dn _ _ _ _ _ (by omega) (by omega) (by omega) (by omega) _).mono ?_; rintro e w' ⟨rfl, hb2⟩; obtain ⟨hc2, hf2⟩ := bcell hb2; have hz2 := hb2.size; have hbw := (below_drewN ((Below.refl w.heap.size w).alloc (Nat.le_refl _) _) _).trans (hb2.mono (by simp)); have G2 := G.below hbw) | (go_at_call 76; refine (goesAway_any _ _ _ _ (by omega) (by omega) hcc _).mono ?_; rintro e w' ⟨rfl, rfl⟩) | (go_at_call 73; refine (withSign_w _ _ (by omega) (by omega) _ G2.c2).mono ?_; rintro e w' ⟨rfl, rfl⟩) | (go_at_call 77; refine (beyond_w _ _ _ G2.c2 G2.c3).mono ?_; rintro e w' ⟨rfl, rfl⟩))
      go_ret
      exact ⟨rfl, hbw⟩
    · have ht : told_w mode n (K + 1) step = sgn_w n (K + 1 + (step - (-149)) * 8388608) := by unfold told_w; rw [if_neg hbig]
      rw [ht]
      go_enter Tryd.func55, Tryd.ntmps55
      go_wp2
      go_quiet (fail)
      go_wp2
      go_region_held3 (fun w' => w'.cell? ⟨w.heap.size, 1, none⟩ = some (.int .u64 z) ∧ w'.cell? ⟨w.heap.size, 2, none⟩ = some (.int .i64 p)) (go_keep) (first | (go_at_call 74; refine (len64_any _ (by omega) (by omega) _).mono ?_; rintro e w' ⟨rfl, rfl⟩))

      go_wp2_with (first | (go_at_call 75; refine (cutBits_dn _ _ _ _ _ (by omega) (by omega) (by omega) (by omega) _).mono ?_; rintro e w' ⟨rfl, hb2⟩; obtain ⟨hc2, hf2⟩ := bcell hb2; have hz2 := hb2.size; have hbw := (below_drewN ((Below.refl w.heap.size w).alloc (Nat.le_refl _) _) _).trans (hb2.mono (by simp)); have G2 := G.below hbw) | (go_at_call 76; refine (goesAway_any _ _ _ _ (by omega) (by omega) hcc _).mono ?_; rintro e w' ⟨rfl, rfl⟩) | (go_at_call 73; refine (withSign_w _ _ (by omega) (by omega) _ G2.c2).mono ?_; rintro e w' ⟨rfl, rfl⟩) | (go_at_call 77; refine (beyond_w _ _ _ G2.c2 G2.c3).mono ?_; rintro e w' ⟨rfl, rfl⟩))
      go_ret
      exact ⟨rfl, hbw⟩

/-- The float that a kept size K at a step makes, its sign ahead. -/
def told_h (mode : Int) (neg : Bool) (K step : Int) : Int :=
  if 31743 < K + (step - (-24)) * 1024 then bey_h mode neg else sgn_h neg (K + (step - (-24)) * 1024)

set_option maxHeartbeats 2000000 in
theorem rx_up_h (n : Bool) (z p mode : Int) (m : Bool) (w : World) (G : Forms w) (h0 : 0 < z) (h1 : z < 18446744073709551616) (p0 : -10000 ≤ p) (p1 : p ≤ 10000)
    (L step K : Int) (hL : (Lib.bitLen z.toNat : Int) = L) (l1 : L ≤ 64) (hs1 : L + p - 10 - 1 ≤ step) (hs2 : (-24) ≤ step) (hs3 : step = L + p - 10 - 1 ∨ step = (-24)) (hsh : step - p ≤ 0)
    (hK : z * 2 ^ (p - step).toNat % 18446744073709551616 = K) (k0 : 0 ≤ K) (k1 : K ≤ 2048) :
    Calls Tryd.prog 55 #[.agg #[.bool n, .int .u64 z, .int .i64 p, .bool m], .int .i64 1, .int .i64 mode] w fun e w' => e = .returned (.int .u32 (told_h mode n K step)) ∧ Below w.heap.size w w' := by
  have c0 := G.c4
  have c1 := G.c5
  have c2 := G.c6
  have c3 := G.c7
  have hp := G.pos
  have hp0 : 0 < w.heap.size := by omega
  have hp1 : 1 < w.heap.size + 1 := by omega
  have hz : ¬ (1 = w.heap.size) := by omega
  have hg : goesB mode n K 0 = false := by unfold goesB; split <;> simp
  have hneg : (-(step - p)).toNat = (p - step).toNat := by omega
  have hK' : z * 2 ^ (-(step - p)).toNat % 18446744073709551616 = K := by rw [hneg]; exact hK
  have hstep : (if IntKind.i64.wrap (IntKind.i64.wrap (IntKind.i64.wrap (L + p) - 10) - 1) < (-24) then (-24) else IntKind.i64.wrap (IntKind.i64.wrap (IntKind.i64.wrap (L + p) - 10) - 1)) = step := by
    rw [wr64 (L + p) (by omega) (by omega), wr64 (L + p - 10) (by omega) (by omega), wr64 (L + p - 10 - 1) (by omega) (by omega)]
    split <;> omega
  by_cases hbig : 31743 < K + (step - (-24)) * 1024
  · have ht : told_h mode n K step = bey_h mode n := by unfold told_h; rw [if_pos hbig]
    rw [ht]
    go_enter Tryd.func55, Tryd.ntmps55
    go_wp2
    go_quiet (fail)
    go_wp2
    go_region_held3 (fun w' => w'.cell? ⟨w.heap.size, 1, none⟩ = some (.int .u64 z) ∧ w'.cell? ⟨w.heap.size, 2, none⟩ = some (.int .i64 p)) (go_keep) (first | (go_at_call 74; refine (len64_any _ (by omega) (by omega) _).mono ?_; rintro e w' ⟨rfl, rfl⟩))

    go_wp2_with (first | (go_at_call 75; refine (cutBits_up _ _ _ _ _ (by omega) (by omega) _).mono ?_; rintro e w' ⟨rfl, hb2⟩; obtain ⟨hc2, hf2⟩ := bcell hb2; have hz2 := hb2.size; have hbw := (below_drewN ((Below.refl w.heap.size w).alloc (Nat.le_refl _) _) _).trans (hb2.mono (by simp)); have G2 := G.below hbw) | (go_at_call 76; refine (goesAway_any _ _ _ _ (by omega) (by omega) (by omega) _).mono ?_; rintro e w' ⟨rfl, rfl⟩) | (go_at_call 73; refine (withSign_h _ _ (by omega) (by omega) _ G2.c6).mono ?_; rintro e w' ⟨rfl, rfl⟩) | (go_at_call 77; refine (beyond_h _ _ _ G2.c6 G2.c7).mono ?_; rintro e w' ⟨rfl, rfl⟩))
    go_ret
    exact ⟨rfl, hbw⟩
  · have ht : told_h mode n K step = sgn_h n (K + (step - (-24)) * 1024) := by unfold told_h; rw [if_neg hbig]
    rw [ht]
    go_enter Tryd.func55, Tryd.ntmps55
    go_wp2
    go_quiet (fail)
    go_wp2
    go_region_held3 (fun w' => w'.cell? ⟨w.heap.size, 1, none⟩ = some (.int .u64 z) ∧ w'.cell? ⟨w.heap.size, 2, none⟩ = some (.int .i64 p)) (go_keep) (first | (go_at_call 74; refine (len64_any _ (by omega) (by omega) _).mono ?_; rintro e w' ⟨rfl, rfl⟩))

    go_wp2_with (first | (go_at_call 75; refine (cutBits_up _ _ _ _ _ (by omega) (by omega) _).mono ?_; rintro e w' ⟨rfl, hb2⟩; obtain ⟨hc2, hf2⟩ := bcell hb2; have hz2 := hb2.size; have hbw := (below_drewN ((Below.refl w.heap.size w).alloc (Nat.le_refl _) _) _).trans (hb2.mono (by simp)); have G2 := G.below hbw) | (go_at_call 76; refine (goesAway_any _ _ _ _ (by omega) (by omega) (by omega) _).mono ?_; rintro e w' ⟨rfl, rfl⟩) | (go_at_call 73; refine (withSign_h _ _ (by omega) (by omega) _ G2.c6).mono ?_; rintro e w' ⟨rfl, rfl⟩) | (go_at_call 77; refine (beyond_h _ _ _ G2.c6 G2.c7).mono ?_; rintro e w' ⟨rfl, rfl⟩))
    go_ret
    exact ⟨rfl, hbw⟩
set_option maxHeartbeats 2000000 in
theorem rx_dn_h (n : Bool) (z p mode : Int) (m : Bool) (w : World) (G : Forms w) (h0 : 0 < z) (h1 : z < 18446744073709551616) (p0 : -10000 ≤ p) (p1 : p ≤ 10000)
    (L step K c : Int) (g : Bool) (hL : (Lib.bitLen z.toNat : Int) = L) (l1 : L ≤ 64) (hs1 : L + p - 10 - 1 ≤ step) (hs2 : (-24) ≤ step) (hs3 : step = L + p - 10 - 1 ∨ step = (-24)) (hsh : 0 < step - p)
    (hK : z / 2 ^ (step - p).toNat = K) (k0 : 0 ≤ K) (k1 : K ≤ 2048) (hc : cutI (z % 2 ^ (step - p).toNat) (2 ^ ((step - p).toNat - 1)) m = c) (hg : goesB mode n K c = g) :
    Calls Tryd.prog 55 #[.agg #[.bool n, .int .u64 z, .int .i64 p, .bool m], .int .i64 1, .int .i64 mode] w fun e w' => e = .returned (.int .u32 (told_h mode n (if g then K + 1 else K) step)) ∧ Below w.heap.size w w' := by
  have c0 := G.c4
  have c1 := G.c5
  have c2 := G.c6
  have c3 := G.c7
  have hp := G.pos
  have hp0 : 0 < w.heap.size := by omega
  have hp1 : 1 < w.heap.size + 1 := by omega
  have hz : ¬ (1 = w.heap.size) := by omega
  have hcc : c = 0 ∨ c = 1 ∨ c = 2 ∨ c = 3 := by rw [← hc]; exact cutI_cases _ _ _
  have hstep : (if IntKind.i64.wrap (IntKind.i64.wrap (IntKind.i64.wrap (L + p) - 10) - 1) < (-24) then (-24) else IntKind.i64.wrap (IntKind.i64.wrap (IntKind.i64.wrap (L + p) - 10) - 1)) = step := by
    rw [wr64 (L + p) (by omega) (by omega), wr64 (L + p - 10) (by omega) (by omega), wr64 (L + p - 10 - 1) (by omega) (by omega)]
    split <;> omega
  cases g
  · simp only [if_false, Bool.false_eq_true]
    by_cases hbig : 31743 < K + (step - (-24)) * 1024
    · have ht : told_h mode n K step = bey_h mode n := by unfold told_h; rw [if_pos hbig]
      rw [ht]
      go_enter Tryd.func55, Tryd.ntmps55
      go_wp2
      go_quiet (fail)
      go_wp2
      go_region_held3 (fun w' => w'.cell? ⟨w.heap.size, 1, none⟩ = some (.int .u64 z) ∧ w'.cell? ⟨w.heap.size, 2, none⟩ = some (.int .i64 p)) (go_keep) (first | (go_at_call 74; refine (len64_any _ (by omega) (by omega) _).mono ?_; rintro e w' ⟨rfl, rfl⟩))

      go_wp2_with (first | (go_at_call 75; refine (cutBits_dn _ _ _ _ _ (by omega) (by omega) (by omega) (by omega) _).mono ?_; rintro e w' ⟨rfl, hb2⟩; obtain ⟨hc2, hf2⟩ := bcell hb2; have hz2 := hb2.size; have hbw := (below_drewN ((Below.refl w.heap.size w).alloc (Nat.le_refl _) _) _).trans (hb2.mono (by simp)); have G2 := G.below hbw) | (go_at_call 76; refine (goesAway_any _ _ _ _ (by omega) (by omega) hcc _).mono ?_; rintro e w' ⟨rfl, rfl⟩) | (go_at_call 73; refine (withSign_h _ _ (by omega) (by omega) _ G2.c6).mono ?_; rintro e w' ⟨rfl, rfl⟩) | (go_at_call 77; refine (beyond_h _ _ _ G2.c6 G2.c7).mono ?_; rintro e w' ⟨rfl, rfl⟩))
      go_ret
      exact ⟨rfl, hbw⟩
    · have ht : told_h mode n K step = sgn_h n (K + (step - (-24)) * 1024) := by unfold told_h; rw [if_neg hbig]
      rw [ht]
      go_enter Tryd.func55, Tryd.ntmps55
      go_wp2
      go_quiet (fail)
      go_wp2
      go_region_held3 (fun w' => w'.cell? ⟨w.heap.size, 1, none⟩ = some (.int .u64 z) ∧ w'.cell? ⟨w.heap.size, 2, none⟩ = some (.int .i64 p)) (go_keep) (first | (go_at_call 74; refine (len64_any _ (by omega) (by omega) _).mono ?_; rintro e w' ⟨rfl, rfl⟩))

      go_wp2_with (first | (go_at_call 75; refine (cutBits_dn _ _ _ _ _ (by omega) (by omega) (by omega) (by omega) _).mono ?_; rintro e w' ⟨rfl, hb2⟩; obtain ⟨hc2, hf2⟩ := bcell hb2; have hz2 := hb2.size; have hbw := (below_drewN ((Below.refl w.heap.size w).alloc (Nat.le_refl _) _) _).trans (hb2.mono (by simp)); have G2 := G.below hbw) | (go_at_call 76; refine (goesAway_any _ _ _ _ (by omega) (by omega) hcc _).mono ?_; rintro e w' ⟨rfl, rfl⟩) | (go_at_call 73; refine (withSign_h _ _ (by omega) (by omega) _ G2.c6).mono ?_; rintro e w' ⟨rfl, rfl⟩) | (go_at_call 77; refine (beyond_h _ _ _ G2.c6 G2.c7).mono ?_; rintro e w' ⟨rfl, rfl⟩))
      go_ret
      exact ⟨rfl, hbw⟩
  · simp only [if_true]
    by_cases hbig : 31743 < K + 1 + (step - (-24)) * 1024
    · have ht : told_h mode n (K + 1) step = bey_h mode n := by unfold told_h; rw [if_pos hbig]
      rw [ht]
      go_enter Tryd.func55, Tryd.ntmps55
      go_wp2
      go_quiet (fail)
      go_wp2
      go_region_held3 (fun w' => w'.cell? ⟨w.heap.size, 1, none⟩ = some (.int .u64 z) ∧ w'.cell? ⟨w.heap.size, 2, none⟩ = some (.int .i64 p)) (go_keep) (first | (go_at_call 74; refine (len64_any _ (by omega) (by omega) _).mono ?_; rintro e w' ⟨rfl, rfl⟩))

      go_wp2_with (first | (go_at_call 75; refine (cutBits_dn _ _ _ _ _ (by omega) (by omega) (by omega) (by omega) _).mono ?_; rintro e w' ⟨rfl, hb2⟩; obtain ⟨hc2, hf2⟩ := bcell hb2; have hz2 := hb2.size; have hbw := (below_drewN ((Below.refl w.heap.size w).alloc (Nat.le_refl _) _) _).trans (hb2.mono (by simp)); have G2 := G.below hbw) | (go_at_call 76; refine (goesAway_any _ _ _ _ (by omega) (by omega) hcc _).mono ?_; rintro e w' ⟨rfl, rfl⟩) | (go_at_call 73; refine (withSign_h _ _ (by omega) (by omega) _ G2.c6).mono ?_; rintro e w' ⟨rfl, rfl⟩) | (go_at_call 77; refine (beyond_h _ _ _ G2.c6 G2.c7).mono ?_; rintro e w' ⟨rfl, rfl⟩))
      go_ret
      exact ⟨rfl, hbw⟩
    · have ht : told_h mode n (K + 1) step = sgn_h n (K + 1 + (step - (-24)) * 1024) := by unfold told_h; rw [if_neg hbig]
      rw [ht]
      go_enter Tryd.func55, Tryd.ntmps55
      go_wp2
      go_quiet (fail)
      go_wp2
      go_region_held3 (fun w' => w'.cell? ⟨w.heap.size, 1, none⟩ = some (.int .u64 z) ∧ w'.cell? ⟨w.heap.size, 2, none⟩ = some (.int .i64 p)) (go_keep) (first | (go_at_call 74; refine (len64_any _ (by omega) (by omega) _).mono ?_; rintro e w' ⟨rfl, rfl⟩))

      go_wp2_with (first | (go_at_call 75; refine (cutBits_dn _ _ _ _ _ (by omega) (by omega) (by omega) (by omega) _).mono ?_; rintro e w' ⟨rfl, hb2⟩; obtain ⟨hc2, hf2⟩ := bcell hb2; have hz2 := hb2.size; have hbw := (below_drewN ((Below.refl w.heap.size w).alloc (Nat.le_refl _) _) _).trans (hb2.mono (by simp)); have G2 := G.below hbw) | (go_at_call 76; refine (goesAway_any _ _ _ _ (by omega) (by omega) hcc _).mono ?_; rintro e w' ⟨rfl, rfl⟩) | (go_at_call 73; refine (withSign_h _ _ (by omega) (by omega) _ G2.c6).mono ?_; rintro e w' ⟨rfl, rfl⟩) | (go_at_call 77; refine (beyond_h _ _ _ G2.c6 G2.c7).mono ?_; rintro e w' ⟨rfl, rfl⟩))
      go_ret
      exact ⟨rfl, hbw⟩
end Go.Proofs.YtoloenkcfpfgcaaDoor
