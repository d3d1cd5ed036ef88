/- Contract of the model's l1Bits of a number above 0: no more than the bits it has, and at most two fewer; conditions: at most 100 limbs. -/
import Derived.Test.YtamoakodlmjbiaaDoorLimbs22
namespace Go.Proofs.YtamoakodlmjbiaaDoor
open Go.ChangeShapes Go.WideShapes Go.ChangeAt Go.RowKit
theorem limb_bits : ∀ k : Fin 101, (Nat.ble (2 ^ (k.val * 29897 / 1000)) (1000000000 ^ k.val) && Nat.ble (1000000000 ^ k.val) (2 ^ (k.val * 29897 / 1000 + 2))) = true := by decide +kernel
theorem bits_val (x : Nat → Nat) (k : Nat) (hk : k ≤ 100) (hx : ∀ i, x i < 1000000000) (top : x k ≠ 0) :
    2 ^ (k * 29897 / 1000 + Nat.log2 (x k)) ≤ val x (k + 1) ∧ val x (k + 1) < 2 ^ (k * 29897 / 1000 + Nat.log2 (x k) + 3) := by
  have h := limb_bits ⟨k, by omega⟩
  simp only [Bool.and_eq_true, Nat.ble_eq] at h
  obtain ⟨l, u⟩ := h
  have a := Nat.log2_self_le top
  have b : x k < 2 ^ (Nat.log2 (x k) + 1) := Nat.lt_log2_self
  have v := val_lt x k (fun i _ => hx i)
  simp only [val]
  constructor
  · have : 2 ^ (k * 29897 / 1000 + Nat.log2 (x k)) ≤ x k * 1000000000 ^ k := by
      rw [Nat.pow_add, Nat.mul_comm]; exact Nat.mul_le_mul a l
    omega
  · have c : (x k + 1) * 1000000000 ^ k ≤ 2 ^ (Nat.log2 (x k) + 1) * 2 ^ (k * 29897 / 1000 + 2) := Nat.mul_le_mul (by omega) u
    rw [← Nat.pow_add, show Nat.log2 (x k) + 1 + (k * 29897 / 1000 + 2) = k * 29897 / 1000 + Nat.log2 (x k) + 3 by omega, Nat.add_mul, Nat.one_mul] at c
    omega
set_option maxHeartbeats 1000000 in
theorem rBits (sm : Bool) (k : Nat) (x : Nat → Nat) (va : Int) (ga : Bool) (pa : Option Addr) (ta ca : Nat) (w : World) (RA : Rep w (.agg #[.int .i64 va, .bool ga, .slice pa ta ca]) sm false (k + 1) x) (hk : k ≤ 100) (top : x k ≠ 0) :
    Calls Tryd.prog 96 #[.agg #[.int .i64 va, .bool ga, .slice pa ta ca]] w fun e w' => e = .returned (.int .i64 ((k * 29897 / 1000 + Nat.log2 (x k) : Nat) : Int)) ∧ Below w.heap.size w w' := by
  obtain ⟨T, hT⟩ : ∃ T, x k = T := ⟨_, rfl⟩
  have T9 := RA.lt k
  rw [hT] at T9 top ⊢
  have hl := log_lt T T9
  obtain ⟨C, hC⟩ : ∃ C, k * 29897 / 1000 = C := ⟨_, rfl⟩
  have hCI : (k : Int) * 29897 / 1000 = (C : Int) := by omega
  have hC2 : C ≤ 2990 := by omega
  rw [hC]
  have B0 : Below w.heap.size w (w.alloc (.cells #[.int .i64 va, .bool ga, .slice pa ta ca] 57)) := (Below.refl _ _).alloc (Nat.le_refl _) _
  have HT : Hid (x k = T) := hT
  have HL : Hid (Nat.log2 T < 30) := hl
  clear hT hl hC
  have kk : (0 : Int) ≤ (k : Int) := by omega
  go_enter Tryd.func96, Tryd.ntmps96
  go_wp2_with (go_at_call 95; refine (RA.lm _ B0).mono ?_; rintro e w' ⟨b, cb, rfl, hb, lb, hbw⟩; have ct := hb k (by omega); rw [HT.out] at ct)
  have HCI : Hid ((k : Int) * 29897 / 1000 = (C : Int)) := hCI
  clear hCI
  go_loop [4, 5] (fun nn t => ∃ j tt : Nat, nn = .int .i64 ((C + j : Nat) : Int) ∧ t = .int .u32 tt ∧ 1 ≤ tt ∧ tt ≤ T ∧ Hid (j + Nat.log2 tt = Nat.log2 T)) (fun _ t => (intOf t).toNat)
  case atStart => exact ⟨0, T, by rw [HCI.out]; rfl, rfl, by omega, Nat.le_refl _, Nat.zero_add _⟩
  case round =>
    obtain ⟨j, tt, rfl, rfl, t1, t2, hj⟩ := hrel
    have jb : j < 30 := by have h1 := hj.out; have h2 := HL.out; omega
    obtain ⟨s, hs⟩ : ∃ s, C + j = s := ⟨_, rfl⟩
    have hs2 : s ≤ 3020 := by omega
    have hs3 : (s : Int) ≤ 3020 := by omega
    rw [hs]
    have HS : Hid (C + j = s) := hs
    clear hs
    by_cases h : 1 < tt
    · have hh := log_half tt h
      have HK : Hid (j + 1 + Nat.log2 (tt / 2) = Nat.log2 T) := by have h1 := hj.out; show j + 1 + Nat.log2 (tt / 2) = Nat.log2 T; omega
      clear hh
      go_wp2
      go_round
      case rel => exact ⟨j + 1, tt / 2, by have := HS.out; rw [show C + (j + 1) = s + 1 by omega]; go_num, by first | rfl | go_num, by omega, by omega, HK⟩
      case measure => simp [intOf]; omega
    · have ht : tt = 1 := by omega
      subst ht
      have hk2 : C + Nat.log2 T = s := by have h1 := hj.out; have : Nat.log2 1 = 0 := by decide
                                          have := HS.out; omega
      have HK2 : Hid (C + Nat.log2 T = s) := hk2
      clear hk2
      go_wp2
      go_ret
      exact ⟨by have h := HK2.out; rw [show (C : Int) + (Nat.log2 T : Int) = (s : Int) by omega]; rfl, B0.trans (hbw.mono B0.size)⟩
theorem num_bits {w : World} {K : Nat} {v : Value} {N : Int} (H : Num w K v N) (hK : 2 ≤ K) (hK2 : K ≤ 100) (h0 : 0 < N) :
    Calls Tryd.prog 96 #[v] w fun e w' => ∃ β : Nat, e = .returned (.int .i64 β) ∧ (2 : Int) ^ β ≤ N ∧ N < 2 ^ (β + 3) ∧ β ≤ 3100 ∧ Below w.heap.size w w' := by
  obtain ⟨sm, ng, n, x, va, ga, pa, ta, ca, rfl, R, nK, n0, top, eN, _⟩ := H.rep2 hK (by omega)
  obtain ⟨k, rfl⟩ : ∃ k, n = k + 1 := ⟨n - 1, by omega⟩
  simp only [Nat.add_sub_cancel] at top
  have hng : ng = false := by
    cases ng
    · rfl
    · rw [eN] at h0; simp [sg] at h0; omega
  subst hng
  have bv := bits_val x k (by omega) R.lt top
  have hl := log_lt (x k) (R.lt k)
  have ip : ∀ n : Nat, ((2 : Int) ^ n) = ((2 ^ n : Nat) : Int) := fun n => by simp
  refine (rBits sm k x va ga pa ta ca w R (by omega) top).mono fun e w' ⟨h1, hb⟩ => ⟨_, h1, ?_, ?_, by omega, hb⟩
  · rw [eN, ip, sg_false]; exact Int.ofNat_le.2 bv.1
  · rw [eN, ip, sg_false]; exact Int.ofNat_lt.2 bv.2
end Go.Proofs.YtamoakodlmjbiaaDoor
