/- Contract of the model's l1Cmp: of two numbers from 0 on, and of any number and 0, by what they stand for. Contract of the model's l1Bits of a number above 0: no more than the bits it has, and at most two fewer; conditions: at most 100 limbs. -/
import Derived.Test.YtoloenkcfpfgcaaDoorLimbs24
import Derived.Test.YtoloenkcfpfgcaaDoorLimbs22
namespace Go.Proofs.YtoloenkcfpfgcaaDoor
open Go.ChangeShapes Go.WideShapes Go.ChangeAt Go.RowKit
theorem pos_sign {N : Int} {ng : Bool} {v : Nat} (h : N = sg ng v) (hN : 0 < N) : ng = false ∧ N = (v : Int) := by
  cases ng
  · exact ⟨rfl, h⟩
  · rw [h] at hN; simp [sg] at hN; omega
theorem num_cmp {w : World} {K L : Nat} {a b : Value} {A B : Int} (HA : Num w K a A) (HB : Num w L b B) (hK : 2 ≤ K) (hL : 2 ≤ L) (a0 : 0 ≤ A) (b0 : 0 ≤ B) :
    Calls Tryd.prog 42 #[a, b] w fun r w' => r = .returned (.int .i64 (cmpZ A B)) ∧ Below w.heap.size w w' := by
  have HA' := HA
  have HB' := HB
  rcases HA with ⟨rfl, _, _⟩ | ⟨ngA, bA, tA, cA, fA, rfl, t3A, tKA, tcA, t1A, hfA, hlA, f9A, topA, hNA⟩
  · rcases HB with ⟨rfl, _, _⟩ | ⟨neg, b', t, cb, f, rfl, t3, tK, tc, t1, hf, hl, f9, top, hN⟩
    · exact zCmp A B w
    · have big := val_top f t t3 top
      have hB : 0 < B := by
        rcases Int.lt_or_eq_of_le b0 with h | h
        · exact h
        · rw [← h] at hN; cases neg <;> simp [sg] at hN <;> omega
      obtain ⟨hn, hv⟩ := pos_sign hN hB
      subst hn
      have RB := rep_great false b' t cb f w (by omega) t1 hf hl f9
      by_cases hA : A = 0
      · subst hA
        have e : cmpZ 0 B = -1 := by unfold cmpZ; rw [if_pos hB]
        rw [e]
        exact rCmp_ZG t f 0 false _ t cb w RB (by omega)
      · obtain ⟨sm, ng, n, x, va, ga, pa, ta, ca, hz, R, nK, n0, tx, eN, SS⟩ := HA'.rep2 hK hA
        obtain ⟨hn, hv2⟩ := pos_sign eN (by omega)
        subst hn
        rw [hz] at R ⊢
        rw [hv, hv2]
        cases sm
        · exact rCmp_G false n x va ga pa ta ca t f 0 false _ t cb w R RB tx top
        · exact rCmp_S n x va ga pa ta ca t f 0 false _ t cb w R RB tx top
  · have big := val_top fA tA t3A topA
    have hA : 0 < A := by
      rcases Int.lt_or_eq_of_le a0 with h | h
      · exact h
      · rw [← h] at hNA; cases ngA <;> simp [sg] at hNA <;> omega
    obtain ⟨hn, hv⟩ := pos_sign hNA hA
    subst hn
    have RA := rep_great false bA tA cA fA w (by omega) t1A hfA hlA f9A
    by_cases hB : B = 0
    · subst hB
      rw [HB'.zero]
      have e : cmpZ A 0 = 1 := by unfold cmpZ; rw [if_neg (by omega), if_pos hA]
      rw [e]
      exact rCmp_GZp tA fA 0 false _ tA cA w RA (by omega)
    · obtain ⟨sm, ng, n, x, va, ga, pa, ta, ca, hz, R, nK, n0, tx, eN, SS⟩ := HB'.rep2 hL hB
      obtain ⟨hn, hv2⟩ := pos_sign eN (by omega)
      subst hn
      subst hz
      rw [hv, hv2]
      exact rCmp_G sm tA fA 0 false _ tA cA n x va ga pa ta ca w RA R topA tx
theorem num_cmp0 {w : World} {K : Nat} {a : Value} {A : Int} (HA : Num w K a A) :
    Calls Tryd.prog 42 #[a, zS 0] w fun r w' => r = .returned (.int .i64 (cmpZ A 0)) ∧ Below w.heap.size w w' := by
  rcases HA with ⟨rfl, _, _⟩ | ⟨ngA, bA, tA, cA, fA, rfl, t3A, tKA, tcA, t1A, hfA, hlA, f9A, topA, hNA⟩
  · exact zCmp A 0 w
  · have big := val_top fA tA t3A topA
    cases ngA
    · have e : cmpZ A 0 = 1 := by unfold cmpZ; rw [hNA, sg_false, if_neg (by omega), if_pos (by omega)]
      rw [e]
      exact rCmp_GZp tA fA 0 false _ tA cA w (rep_great false bA tA cA fA w (by omega) t1A hfA hlA f9A) (by omega)
    · have e : cmpZ A 0 = -1 := by unfold cmpZ; rw [hNA, sg_true, if_pos (by omega)]
      rw [e]
      exact rCmp_GZn tA fA 0 true _ tA cA w (rep_great true bA tA cA fA w (by omega) t1A hfA hlA f9A) (by omega)
end Go.Proofs.YtoloenkcfpfgcaaDoor
namespace Go.Proofs.YtoloenkcfpfgcaaDoor
open Go.ChangeShapes Go.WideShapes Go.ChangeAt Go.RowKit
theorem limb_bits : ∀ k : Fin 101, (Nat.ble (2 ^ (k.val * 29897 / 1000)) (1000000000 ^ k.val) && Nat.ble (1000000000 ^ k.val) (2 ^ (k.val * 29897 / 1000 + 2))) = true := by decide +kernel
theorem bits_val (x : Nat → Nat) (k : Nat) (hk : k ≤ 100) (hx : ∀ i, x i < 1000000000) (top : x k ≠ 0) :
    2 ^ (k * 29897 / 1000 + Nat.log2 (x k)) ≤ val x (k + 1) ∧ val x (k + 1) < 2 ^ (k * 29897 / 1000 + Nat.log2 (x k) + 3) := by
  have h := limb_bits ⟨k, by omega⟩
  simp only [Bool.and_eq_true, Nat.ble_eq] at h
  obtain ⟨l, u⟩ := h
  have a := Nat.log2_self_le top
  have b : x k < 2 ^ (Nat.log2 (x k) + 1) := Nat.lt_log2_self
  have v := val_lt x k (fun i _ => hx i)
  simp only [val]
  constructor
  · have : 2 ^ (k * 29897 / 1000 + Nat.log2 (x k)) ≤ x k * 1000000000 ^ k := by
      rw [Nat.pow_add, Nat.mul_comm]; exact Nat.mul_le_mul a l
    omega
  · have c : (x k + 1) * 1000000000 ^ k ≤ 2 ^ (Nat.log2 (x k) + 1) * 2 ^ (k * 29897 / 1000 + 2) := Nat.mul_le_mul (by omega) u
    rw [← Nat.pow_add, show Nat.log2 (x k) + 1 + (k * 29897 / 1000 + 2) = k * 29897 / 1000 + Nat.log2 (x k) + 3 by omega, Nat.add_mul, Nat.one_mul] at c
    omega
set_option maxHeartbeats 1000000 in
theorem rBits (sm : Bool) (k : Nat) (x : Nat → Nat) (va : Int) (ga : Bool) (pa : Option Addr) (ta ca : Nat) (w : World) (RA : Rep w (.agg #[.int .i64 va, .bool ga, .slice pa ta ca]) sm false (k + 1) x) (hk : k ≤ 100) (top : x k ≠ 0) :
    Calls Tryd.prog 81 #[.agg #[.int .i64 va, .bool ga, .slice pa ta ca]] w fun e w' => e = .returned (.int .i64 ((k * 29897 / 1000 + Nat.log2 (x k) : Nat) : Int)) ∧ Below w.heap.size w w' := by
  obtain ⟨T, hT⟩ : ∃ T, x k = T := ⟨_, rfl⟩
  have T9 := RA.lt k
  rw [hT] at T9 top ⊢
  have hl := log_lt T T9
  obtain ⟨C, hC⟩ : ∃ C, k * 29897 / 1000 = C := ⟨_, rfl⟩
  have hCI : (k : Int) * 29897 / 1000 = (C : Int) := by omega
  have hC2 : C ≤ 2990 := by omega
  rw [hC]
  have B0 : Below w.heap.size w (w.alloc (.cells #[.int .i64 va, .bool ga, .slice pa ta ca] 50)) := (Below.refl _ _).alloc (Nat.le_refl _) _
  have HT : Hid (x k = T) := hT
  have HL : Hid (Nat.log2 T < 30) := hl
  clear hT hl hC
  have kk : (0 : Int) ≤ (k : Int) := by omega
  go_enter Tryd.func81, Tryd.ntmps81
  go_wp2_with (go_at_call 63; refine (RA.lm _ B0).mono ?_; rintro e w' ⟨b, cb, rfl, hb, lb, hbw⟩; have ct := hb k (by omega); rw [HT.out] at ct)
  have HCI : Hid ((k : Int) * 29897 / 1000 = (C : Int)) := hCI
  clear hCI
  go_loop [4, 5] (fun nn t => ∃ j tt : Nat, nn = .int .i64 ((C + j : Nat) : Int) ∧ t = .int .u32 tt ∧ 1 ≤ tt ∧ tt ≤ T ∧ Hid (j + Nat.log2 tt = Nat.log2 T)) (fun _ t => (intOf t).toNat)
  case atStart => exact ⟨0, T, by rw [HCI.out]; rfl, rfl, by omega, Nat.le_refl _, Nat.zero_add _⟩
  case round =>
    obtain ⟨j, tt, rfl, rfl, t1, t2, hj⟩ := hrel
    have jb : j < 30 := by have h1 := hj.out; have h2 := HL.out; omega
    obtain ⟨s, hs⟩ : ∃ s, C + j = s := ⟨_, rfl⟩
    have hs2 : s ≤ 3020 := by omega
    have hs3 : (s : Int) ≤ 3020 := by omega
    rw [hs]
    have HS : Hid (C + j = s) := hs
    clear hs
    by_cases h : 1 < tt
    · have hh := log_half tt h
      have HK : Hid (j + 1 + Nat.log2 (tt / 2) = Nat.log2 T) := by have h1 := hj.out; show j + 1 + Nat.log2 (tt / 2) = Nat.log2 T; omega
      clear hh
      go_wp2
      go_round
      case rel => exact ⟨j + 1, tt / 2, by have := HS.out; rw [show C + (j + 1) = s + 1 by omega]; go_num, by first | rfl | go_num, by omega, by omega, HK⟩
      case measure => simp [intOf]; omega
    · have ht : tt = 1 := by omega
      subst ht
      have hk2 : C + Nat.log2 T = s := by have h1 := hj.out; have : Nat.log2 1 = 0 := by decide
                                          have := HS.out; omega
      have HK2 : Hid (C + Nat.log2 T = s) := hk2
      clear hk2
      go_wp2
      go_ret
      exact ⟨by have h := HK2.out; rw [show (C : Int) + (Nat.log2 T : Int) = (s : Int) by omega]; rfl, B0.trans (hbw.mono B0.size)⟩
theorem num_bits {w : World} {K : Nat} {v : Value} {N : Int} (H : Num w K v N) (hK : 2 ≤ K) (hK2 : K ≤ 100) (h0 : 0 < N) :
    Calls Tryd.prog 81 #[v] w fun e w' => ∃ β : Nat, e = .returned (.int .i64 β) ∧ (2 : Int) ^ β ≤ N ∧ N < 2 ^ (β + 3) ∧ β ≤ 3100 ∧ Below w.heap.size w w' := by
  obtain ⟨sm, ng, n, x, va, ga, pa, ta, ca, rfl, R, nK, n0, top, eN, _⟩ := H.rep2 hK (by omega)
  obtain ⟨k, rfl⟩ : ∃ k, n = k + 1 := ⟨n - 1, by omega⟩
  simp only [Nat.add_sub_cancel] at top
  have hng : ng = false := by
    cases ng
    · rfl
    · rw [eN] at h0; simp [sg] at h0; omega
  subst hng
  have bv := bits_val x k (by omega) R.lt top
  have hl := log_lt (x k) (R.lt k)
  have ip : ∀ n : Nat, ((2 : Int) ^ n) = ((2 ^ n : Nat) : Int) := fun n => by simp
  refine (rBits sm k x va ga pa ta ca w R (by omega) top).mono fun e w' ⟨h1, hb⟩ => ⟨_, h1, ?_, ?_, by omega, hb⟩
  · rw [eN, ip, sg_false]; exact Int.ofNat_le.2 bv.1
  · rw [eN, ip, sg_false]; exact Int.ofNat_lt.2 bv.2
end Go.Proofs.YtoloenkcfpfgcaaDoor
